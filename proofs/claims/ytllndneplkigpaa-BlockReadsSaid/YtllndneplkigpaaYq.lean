/- Spoil and SpoilBlock over memory of the call's own: what stays. -/
import Derived.Test.YtllndneplkigpaaYp
set_option linter.unusedSimpArgs false
set_option linter.unusedVariables false
set_option maxRecDepth 100000
namespace Go.Proofs.Ytllndneplkigpaa
open Go.RowKit Go.Lib Go.Sort

theorem exec_xor8 {o : Oper} {ev : Operand → Value} {W : World} {x y : Operand} {a b z : Int} (ho : o.op = .binOp .xor 5 x y 5) (hx : ev x = .int .u8 a) (hy : ev y = .int .u8 b) (hz : IntKind.u8.wrap (((BitVec.ofInt 8 a ^^^ BitVec.ofInt 8 b).toNat : Nat) : Int) = z) : (execOp ev o).run Try.prog W = .ok (.value (.int .u8 z)) W := by
  subst hz
  unfold execOp
  simp only [ho, hx, hy]
  rfl
theorem xor8_nat (a b : Int) : ∃ y : Nat, y < 256 ∧ IntKind.u8.wrap (((BitVec.ofInt 8 a ^^^ BitVec.ofInt 8 b).toNat : Nat) : Int) = ((y : Nat) : Int) := by
  generalize (((BitVec.ofInt 8 a ^^^ BitVec.ofInt 8 b).toNat : Nat) : Int) = q
  refine ⟨(IntKind.u8.wrap q).toNat, ?_, ?_⟩ <;> · simp [IntKind.wrap, IntKind.bits, IntKind.signed]; omega
section
variable {ops : Array Oper} {rest : List Oper} {Q : Exit → Act → World → Prop} {op : Oper} {a : Act} {w : World}
theorem wpList_spoil {B : Nat} {p : Option Addr} {g n c : Nat} {x : Nat → Nat} (N : Hid (Own B w p g n c x)) (hg : op.guard = none) (xo yo : Operand) (ho : op.op = .store 5 xo yo) {i v : Nat} (hx : a.eval xo = .pointer (some ⟨g, i, none⟩)) (hy : a.eval yo = .int .u8 ((v : Nat) : Int)) (hi : i < n) (hv : v < 256)
    (h : ∀ w', Hid (Spoilt B w w') → wpList Try.prog ops Q rest (a.put op.dst undef) w') : wpList Try.prog ops Q (op :: rest) a w := by
  obtain ⟨S, cur, hc, hcs⟩ := N.out.spoil hi hv
  refine wpList_plain hg fun K hK => ?_
  unfold Oper.wp execOp
  simp only [ho, hx, hy, Sem.run_bind, Sem.run_pure, run_store_one (P := Try.prog) (ty := 5) (v := .int .u8 ((v : Nat) : Int)) (by kernel_rfl) rfl rfl (cell_of_here hc i (Array.getElem?_eq_getElem hcs)) (free_of_here hc i), Result.andThen_ok]
  exact hK _ _ (h _ (Lib.hid S))
end
set_option maxHeartbeats 4000000 in
theorem spoil_any {B : Nat} {W : World} {v : Value} {ts : List (List Nat)} (A : Hid (TextsOwn B W v ts)) : Calls Try.prog 14 #[v] W fun e w' => e = .returned (.tuple #[]) ∧ Spoilt B W w' := by
  obtain ⟨p, g, c, V, rfl, hl, N0, I0⟩ := A.out
  have NW := Lib.hid N0
  have TI := Lib.hid I0
  obtain ⟨n, hn⟩ : ∃ n, n = ts.length := ⟨_, rfl⟩
  have HN := Lib.hid hn
  rw [← hn] at NW hl ⊢
  have n3 : n ≤ 140737488355328 := by omega
  have S := Lib.hid (Spoilt.refl B W)
  clear hn hl N0 I0 A
  go_enter Try.func14, Try.ntmps14
  go_upto_region 1 with fail
  go_loopg [7] n (fun k i wr => ∃ j : Nat, j + k = n ∧ i = .int .i64 ((j : Nat) : Int) ∧ Hid (Spoilt B W wr))
  case atStart => exact ⟨0, by omega, rfl, S⟩
  case round =>
    clear S
    obtain ⟨j, hj, rfl, S⟩ := hrel
    obtain ⟨kk, rfl⟩ : ∃ kk : Nat, kk = gk := ⟨_, rfl⟩
    by_cases hlt : j < n
    · have ht : j < ts.length := by rw [← HN.out]; exact hlt
      have N := Lib.hid (NW.out.keep S.out.keep (by decide))
      obtain rfl := N.out.row.head (by omega)
      obtain ⟨t', p5, g5, c5, hv5, hl5, N5⟩ := (TI.out j ht).spoilt S.out
      have CC : Hid (wr.cell? ⟨g, 0 + j, none⟩ = some (.slice p5 t'.length c5)) := Lib.hid (by rw [← hv5]; exact N.out.row.cell j (by omega))
      obtain ⟨m, hm⟩ : ∃ m, m = t'.length := ⟨_, rfl⟩
      rw [← hm] at CC N5 hl5
      have m3 : m ≤ 140737488355328 := by omega
      have OX : Hid (∃ x, Own B wr p5 g5 m c5 x) := Lib.hid ⟨_, N5⟩
      clear hm hv5 hl5 N5
      go_upto_region 4 with (first
        | ((with_reducible refine wpList_at 9 rfl ?_); refine wpList_ix (k := 1) (j := j) Try.underlying65 (by kernel_rfl) (.tmp 5) (.tmp 7) rfl rfl rfl rfl hlt rfl ?_; rw [Nat.mul_one])
        | ((with_reducible refine wpList_at 10 rfl ?_); refine wpList_ld1 22 (.tmp 9) rfl rfl rfl Try.underlying22 rfl CC.out ?_))
      clear CC N
      go_loopg [13] m (fun k i wr => ∃ q : Nat, q + k = m ∧ i = .int .i64 ((q : Nat) : Int) ∧ Hid (Spoilt B W wr) ∧ Hid (∃ x, Own B wr p5 g5 m c5 x))
      case atStart => exact ⟨0, by omega, rfl, S, OX⟩
      case round =>
        clear S OX
        obtain ⟨q, hq, rfl, S, OX⟩ := hrel
        obtain ⟨k2, rfl⟩ : ∃ k2 : Nat, k2 = gk := ⟨_, rfl⟩
        by_cases hq2 : q < m
        · obtain ⟨x, N5⟩ := OX.out
          have NX := Lib.hid N5
          obtain rfl := NX.out.row.head (by omega)
          have CX := Lib.hid (NX.out.row.cell q hq2)
          obtain ⟨xq, hxq⟩ : ∃ xq, xq = x q := ⟨_, rfl⟩
          rw [← hxq] at CX
          obtain ⟨y, hy, hyx⟩ := xor8_nat ((xq : Nat) : Int) 255
          have HYX := Lib.hid hyx
          clear hxq hyx N5 OX
          go_wp2_with (first
            | ((with_reducible refine wpList_at 18 rfl ?_); refine wpList_ix (k := 1) (j := q) Try.underlying22 (by kernel_rfl) (.tmp 16) (.tmp 17) rfl rfl rfl rfl hq2 rfl ?_; rw [Nat.mul_one, Nat.zero_add])
            | ((with_reducible refine wpList_at 19 rfl ?_); refine wpList_ld1 5 (.tmp 18) rfl rfl rfl Try.underlying5 rfl (by have := CX.out; rwa [Nat.zero_add] at this) ?_)
            | ((with_reducible refine wpList_at 20 rfl ?_); refine mem_known rfl (.int .u8 ((y : Nat) : Int)) _ (exec_xor8 rfl rfl rfl HYX.out) ?_)
            | ((with_reducible refine wpList_at 21 rfl ?_); refine wpList_ix (k := 1) (j := q) Try.underlying22 (by kernel_rfl) (.tmp 16) (.tmp 17) rfl rfl rfl rfl hq2 rfl ?_; rw [Nat.mul_one, Nat.zero_add])
            | ((with_reducible refine wpList_atn rfl ?_); refine wpList_spoil NX rfl (.tmp 21) (.tmp 20) rfl rfl rfl hq2 hy ?_; intro w9 S9))
          have OX2 : Hid (∃ x, Own B w9 (some ⟨g5, 0, none⟩) g5 m c5 x) := Lib.hid (S9.out.own _ _ _ _ _ NX.out)
          have S2 := Lib.hid (S.out.trans S9.out)
          clear NX CX S S9
          go_roundg (m - (q + 1))
          case measure => omega
          case rel => exact ⟨q + 1, by omega, by go_num, S2, OX2⟩
        · obtain rfl : q = m := by omega
          go_wp2
          go_roundg (n - (j + 1))
          case measure => omega
          case rel => exact ⟨j + 1, by omega, by go_num, S⟩
    · obtain rfl : j = n := by omega
      go_wp2
      go_end0
      exact ⟨rfl, S.out⟩
theorem texts_one {B : Nat} {w : World} {p : Option Addr} {g B2 : Nat} {v : Value} {t : List Nat} (N : VOwn 22 1 B2 w p g 1 1 (fun _ => v)) (hB : B ≤ B2) (A : TextOwn B w v t) : TextsOwn B w (.slice p 1 1) [t] :=
  ⟨p, g, 1, fun _ => v, rfl, (by show (1 : Nat) * 24 ≤ 140737488351232; decide), N.mono hB, fun i hi => by
    obtain rfl : i = 0 := by
      have : i < 1 := hi
      omega
    exact A⟩
set_option maxHeartbeats 8000000 in
theorem spoilblk_any {B : Nat} {W : World} {V : Nat → Value} {ts : List TTx} (A : Hid (TxsOwn B W (V 68) ts)) (ONE : Hid (∀ j, j < 69 → (V j).oneCell' = true)) (HB : Hid (B ≤ W.heap.size)) : Calls Try.prog 13 #[.agg (arr 69 V)] W fun e w' => e = .returned (.tuple #[]) ∧ Spoilt B W w' := by
  obtain ⟨p, g, c, X, hv, hl, _, _⟩ := A.out
  obtain ⟨n, hn⟩ : ∃ n, n = ts.length := ⟨_, rfl⟩
  rw [← hn] at hl hv
  have n3 : n ≤ 140737488355328 := by omega
  have V68 : (arr 69 V)[68]? = some (.slice p n c) := by rw [arr_get 69 V 68 (by omega), hv]
  have AV : Hid (TxsOwn B W (.slice p n c) ts) := Lib.hid (by rw [← hv]; exact A.out)
  have E := Lib.hid (Mem.nil W)
  clear hn hl hv A
  go_enter Try.func13, Try.ntmps13
  go_upto_region 2 with (first
    | ((with_reducible refine wpList_at 1 rfl ?_); refine mem_box E 41 rfl (.tmp 0) rfl rfl (arr_cells' 69 V) ?_; clear E; intro b1 w1 E)
    | ((with_reducible refine wpList_at 9 rfl ?_); refine mem_load_cell E 35 (by kernel_rfl) (.tmp 8) rfl rfl List.mem_cons_self Try.underlying35 rfl V68 ?_))
  have S := Lib.hid (Spoilt.of HB.out E.out.below)
  clear E
  go_loopg [11] n (fun k i wr => ∃ j : Nat, j + k = n ∧ i = .int .i64 ((j : Nat) : Int) ∧ Hid (Spoilt B W wr))
  case atStart => exact ⟨0, by omega, rfl, S⟩
  case round =>
    clear S
    obtain ⟨j, hj, rfl, S⟩ := hrel
    obtain ⟨kk, rfl⟩ : ∃ kk : Nat, kk = gk := ⟨_, rfl⟩
    have BW := Lib.hid (Nat.le_trans HB.out S.out.below.size)
    by_cases hlt : j < n
    · obtain ⟨ts', p2, g2, c2, X2, hv2, _, N2, I2⟩ := AV.out.spoilt S.out
      injection hv2 with q1 q2 q3
      subst q1 q3
      rw [← q2] at N2
      have NX := Lib.hid N2
      obtain rfl := NX.out.row.head (by omega)
      have TX := Lib.hid (I2 j (by omega))
      obtain ⟨t, ht⟩ : ∃ t, t = ts'[j]'(by omega) := ⟨_, rfl⟩
      rw [← ht] at TX
      obtain ⟨U, hU⟩ : ∃ U : Nat → Value, U = fun x => X2 (j * 4 + x) := ⟨_, rfl⟩
      have LD := Lib.hid (NX.out.row.load hlt Try.underlying28 rfl (by kernel_rfl))
      rw [← hU] at TX LD
      have E := Lib.hid (Mem.nil wr)
      clear ht hU N2 I2 q2
      go_upto_region 4 with (first
        | ((with_reducible refine wpList_at 13 rfl ?_); refine wpList_ix (k := 4) (j := j) Try.underlying35 (by kernel_rfl) (.tmp 9) (.tmp 11) rfl rfl rfl rfl hlt rfl ?_)
        | ((with_reducible refine wpList_at 14 rfl ?_); refine wpList_ld 28 (.tmp 13) rfl rfl rfl LD.out ?_)
        | ((with_reducible refine wpList_at 3 rfl ?_); refine mem_allocb E 28 rfl rfl infoTxz ?_; clear E; intro b3 w3 E hb3; simp only [arr_cells'] at E; replace TX := Lib.hid (TX.out.below hb3.out); clear hb3)
        | ((with_reducible refine wpList_atn rfl ?_); refine mem_store_rowk 0 E 28 rfl (.tmp 3) (.tmp 14) rfl rfl rfl rfl (by kernel_rfl) (by simp only [arr_size]) (all_of TX.out.one) ?_; clear E; intro w5 E KT; simp only [List.set_cons_zero, List.set_cons_succ] at E; replace TX := Lib.hid (TX.out.keep KT.out (by decide) (by decide) (by decide) (by decide)); clear KT))
      clear NX LD
      have B3 := Lib.hid (E.out.get List.mem_cons_self)
      have S5 := Lib.hid (S.out.trans (Spoilt.of BW.out E.out.below))
      have BW5 := Lib.hid (Nat.le_trans BW.out E.out.below.size)
      obtain ⟨pi, gi, ci, Yi, hvi, hli, _, _⟩ := TX.out.ins
      obtain ⟨ni, hni⟩ : ∃ ni, ni = t.ins.length := ⟨_, rfl⟩
      obtain ⟨po, go, co, Yo, hvo, hlo, _, _⟩ := TX.out.outs
      obtain ⟨no, hno⟩ : ∃ no, no = t.outs.length := ⟨_, rfl⟩
      rw [← hni] at hvi hli
      rw [← hno] at hvo hlo
      have ni3 : ni ≤ 140737488355328 := by omega
      have no3 : no ≤ 140737488355328 := by omega
      have U1 := Lib.hid hvi
      have U2 := Lib.hid hvo
      clear hni hno hli hlo hvi hvo E S BW
      go_upto_region 5 with ((with_reducible refine wpList_at 16 rfl ?_); refine wpList_ld1 25 (.tmp 15) rfl rfl rfl Try.underlying25 rfl (v := .slice pi ni ci) (cell_of_here B3.out 1 (by rw [arr_get 4 U 1 (by omega), U1.out])) ?_)
      have Z5 := Lib.hid (Spoilt.refl B w5)
      go_loopg [18] ni (fun k i wr => ∃ q : Nat, q + k = ni ∧ i = .int .i64 ((q : Nat) : Int) ∧ Hid (Spoilt B w5 wr))
      case atStart => exact ⟨0, by omega, rfl, Z5⟩
      case round =>
        clear Z5
        obtain ⟨q, hq, rfl, Z⟩ := hrel
        obtain ⟨k2, rfl⟩ : ∃ k2 : Nat, k2 = gk := ⟨_, rfl⟩
        obtain ⟨w6, rfl⟩ : ∃ w6 : World, w6 = wr := ⟨_, rfl⟩
        have BW6 := Lib.hid (Nat.le_trans BW5.out Z.out.below.size)
        by_cases hq2 : q < ni
        · obtain ⟨t2, TX2⟩ := TX.out.spoilt Z.out
          obtain ⟨p4, g4, c4, Y4, hv4, _, N4, I4⟩ := TX2.ins
          rw [U1.out] at hv4
          injection hv4 with q1 q2 q3
          subst q1 q3
          rw [← q2] at N4
          have NI := Lib.hid N4
          obtain rfl := NI.out.row.head (by omega)
          obtain ⟨xi, hxi⟩ : ∃ xi, xi = t2.ins[q]'(by omega) := ⟨_, rfl⟩
          have TI := Lib.hid (I4 q (by omega))
          rw [← hxi] at TI
          obtain ⟨Z36, hZ⟩ : ∃ Z36 : Nat → Value, Z36 = fun x => Y4 (q * 36 + x) := ⟨_, rfl⟩
          have LD := Lib.hid (NI.out.row.load hq2 Try.underlying67 rfl (by kernel_rfl))
          rw [← hZ] at TI LD
          obtain ⟨ps, gs, cs, hvs, hls, _⟩ := TI.out.sc
          obtain ⟨pw, gw, cw, Yw, hvw, hlw, _, _⟩ := TI.out.wit
          have Z33 := Lib.hid hvs
          have Z35 := Lib.hid hvw
          have E := Lib.hid (Mem.nil w6)
          clear hxi hZ N4 I4 q2 TX2 hvs hvw hls hlw
          go_upto_region 8 with (first
            | ((with_reducible refine wpList_at 20 rfl ?_); refine wpList_ix (k := 36) (j := q) Try.underlying25 (by kernel_rfl) (.tmp 16) (.tmp 18) rfl rfl rfl rfl hq2 rfl ?_)
            | ((with_reducible refine wpList_at 21 rfl ?_); refine wpList_ld 67 (.tmp 20) rfl rfl rfl LD.out ?_)
            | ((with_reducible refine wpList_at 5 rfl ?_); refine mem_allocb E 67 rfl rfl infoIn ?_; clear E; intro b5 w7 E hb5; simp only [arr_cells'] at E; replace TI := Lib.hid (TI.out.below hb5.out); clear hb5)
            | ((with_reducible refine wpList_atn rfl ?_); refine mem_store_rowk 0 E 67 rfl (.tmp 5) (.tmp 21) rfl rfl rfl rfl (by kernel_rfl) (by simp only [arr_size]) (all_of TI.out.at.one) ?_; clear E; intro w8 E KT; simp only [List.set_cons_zero, List.set_cons_succ] at E; replace TI := Lib.hid (TI.out.keep KT.out (by decide) (by decide)); clear KT)
            | ((with_reducible refine wpList_at 23 rfl ?_); refine mem_load_cell E 22 rfl (.tmp 22) rfl rfl List.mem_cons_self Try.underlying22 rfl (v := .slice ps xi.sc.length cs) (by rw [arr_get 36 Z36 33 (by omega), Z33.out]) ?_)
            | ((with_reducible refine wpList_at 24 rfl ?_); refine wpList_vbs 65 22 1 1 rfl _ rfl (fun _ => .slice ps xi.sc.length cs) (fun _ _ => rfl) (by unfold maxLen; omega) (ps := #[(0, .slice ps xi.sc.length cs)]) (by kernel_rfl) (fun W => run_bs1v Try.underlying65 infoText3 _ rfl W) (vs_const _) ?_; intro p9 g9 w9 N9 hb9; have BB := Lib.hid (Nat.le_trans BW6.out E.out.below.size); replace TI := Lib.hid (TI.out.below hb9.out); replace E := Lib.hid (E.out.call hb9.out); clear hb9)
            | (go_at_call 14; refine (spoil_any (Lib.hid (texts_one N9.out BB.out (by have := TI.out.sc; rwa [Z33.out] at this)))).mono ?_; rintro e w10 ⟨rfl, hs⟩; have B5 := Lib.hid (hs.keep.keep _ _ _ (by decide) (E.out.get List.mem_cons_self)); replace Z := Lib.hid (Z.out.trans ((Spoilt.of BW6.out E.out.below).trans hs)); have WT := Lib.hid (TI.out.wit.spoilt hs); clear hs E TI N9 BB))
          clear NI LD
          obtain ⟨ws', WT'⟩ := WT.out
          have W9 := Lib.hid WT'
          rw [Z35.out] at W9
          clear WT WT'
          go_wp2_with (first
            | ((with_reducible refine wpList_at 27 rfl ?_); refine wpList_ld1 65 (.tmp 26) rfl rfl rfl Try.underlying65 rfl (v := .slice pw xi.wit.length cw) (cell_of_here B5.out 35 (by rw [arr_get 36 Z36 35 (by omega), Z35.out])) ?_)
            | (go_at_call 14; refine (spoil_any W9).mono ?_; rintro e w11 ⟨rfl, hs⟩; replace Z := Lib.hid (Z.out.trans hs); clear hs))
          clear B5 W9
          go_roundg (ni - (q + 1))
          case measure => omega
          case rel => exact ⟨q + 1, by omega, by go_num, Z⟩
        · obtain rfl : q = ni := by omega
          have B3' := Lib.hid (Z.out.keep.keep _ _ _ (by decide) B3.out)
          go_upto_region 11 with ((with_reducible refine wpList_at 31 rfl ?_); refine wpList_ld1 26 (.tmp 30) rfl rfl rfl Try.underlying26 rfl (v := .slice po no co) (cell_of_here B3'.out 2 (by rw [arr_get 4 U 2 (by omega), U2.out])) ?_)
          go_loopg [33] no (fun k i wr => ∃ q : Nat, q + k = no ∧ i = .int .i64 ((q : Nat) : Int) ∧ Hid (Spoilt B w5 wr))
          case atStart => exact ⟨0, by omega, rfl, Z⟩
          case round =>
            clear Z B3' BW6
            obtain ⟨q4, hq4, rfl, Z⟩ := hrel
            obtain ⟨k4, rfl⟩ : ∃ k4 : Nat, k4 = gk := ⟨_, rfl⟩
            obtain ⟨w6b, rfl⟩ : ∃ w6b : World, w6b = wr := ⟨_, rfl⟩
            have BW6 := Lib.hid (Nat.le_trans BW5.out Z.out.below.size)
            by_cases hq5 : q4 < no
            · obtain ⟨t2, TX2⟩ := TX.out.spoilt Z.out
              obtain ⟨p4, g4, c4, Y4, hv4, _, N4, I4⟩ := TX2.outs
              rw [U2.out] at hv4
              injection hv4 with r1 r2 r3
              subst r1 r3
              rw [← r2] at N4
              have NI := Lib.hid N4
              obtain rfl := NI.out.row.head (by omega)
              obtain ⟨xo, hxo⟩ : ∃ xo, xo = t2.outs[q4]'(by omega) := ⟨_, rfl⟩
              have TO := Lib.hid (I4 q4 (by omega))
              rw [← hxo] at TO
              obtain ⟨Z2, hZ⟩ : ∃ Z2 : Nat → Value, Z2 = fun x => Y4 (q4 * 2 + x) := ⟨_, rfl⟩
              have LD := Lib.hid (NI.out.row.load hq5 Try.underlying70 rfl (by kernel_rfl))
              rw [← hZ] at TO LD
              obtain ⟨ps, gs, cs, hvs, hls, _⟩ := TO.out.sc
              have Z1 := Lib.hid hvs
              have E := Lib.hid (Mem.nil w6b)
              clear hxo hZ N4 I4 r2 TX2 hvs hls
              go_wp2_with (first
                | ((with_reducible refine wpList_at 35 rfl ?_); refine wpList_ix (k := 2) (j := q4) Try.underlying26 (by kernel_rfl) (.tmp 31) (.tmp 33) rfl rfl rfl rfl hq5 rfl ?_)
                | ((with_reducible refine wpList_at 36 rfl ?_); refine wpList_ld 70 (.tmp 35) rfl rfl rfl LD.out ?_)
                | ((with_reducible refine wpList_at 7 rfl ?_); refine mem_allocb E 70 rfl rfl infoOut ?_; clear E; intro b7 w7 E hb7; replace TO := Lib.hid (TO.out.below hb7.out); clear hb7)
                | ((with_reducible refine wpList_atn rfl ?_); refine mem_store_rowk 0 E 70 rfl (.tmp 7) (.tmp 36) rfl rfl rfl rfl (by kernel_rfl) (by rw [arr_size]; rfl) (all_of (out_one TO.out)) ?_; clear E; intro w8 E KT; simp only [List.set_cons_zero, List.set_cons_succ] at E; replace TO := Lib.hid (TO.out.keep KT.out (by decide)); clear KT)
                | ((with_reducible refine wpList_at 38 rfl ?_); refine mem_load_cell E 22 rfl (.tmp 37) rfl rfl List.mem_cons_self Try.underlying22 rfl (v := .slice ps xo.sc.length cs) (by rw [arr_get 2 Z2 1 (by omega), Z1.out]) ?_)
                | ((with_reducible refine wpList_at 39 rfl ?_); refine wpList_vbs 65 22 1 1 rfl _ rfl (fun _ => .slice ps xo.sc.length cs) (fun _ _ => rfl) (by unfold maxLen; omega) (ps := #[(0, .slice ps xo.sc.length cs)]) (by kernel_rfl) (fun W => run_bs1v Try.underlying65 infoText3 _ rfl W) (vs_const _) ?_; intro p9 g9 w9 N9 hb9; have BB := Lib.hid (Nat.le_trans BW6.out E.out.below.size); replace TO := Lib.hid (TO.out.below hb9.out); replace E := Lib.hid (E.out.call hb9.out); clear hb9)
                | (go_at_call 14; refine (spoil_any (Lib.hid (texts_one N9.out BB.out (by have := TO.out.sc; rwa [Z1.out] at this)))).mono ?_; rintro e w10 ⟨rfl, hs⟩; replace Z := Lib.hid (Z.out.trans ((Spoilt.of BW6.out E.out.below).trans hs)); clear hs E TO N9 BB))
              clear NI LD
              go_roundg (no - (q4 + 1))
              case measure => omega
              case rel => exact ⟨q4 + 1, by omega, by go_num, Z⟩
            · obtain rfl : q4 = no := by omega
              have S6 := Lib.hid (S5.out.trans Z.out)
              go_wp2
              go_roundg (n - (j + 1))
              case measure => omega
              case rel => exact ⟨j + 1, by omega, by go_num, S6⟩
    · obtain rfl : j = n := by omega
      go_wp2
      go_end0
      exact ⟨rfl, S.out⟩
end Go.Proofs.Ytllndneplkigpaa
