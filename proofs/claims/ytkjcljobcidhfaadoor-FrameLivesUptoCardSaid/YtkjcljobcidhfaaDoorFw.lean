/- Spoil of one text of the call's own: what stays. -/
import Derived.Test.YtkjcljobcidhfaaDoorGf
set_option linter.unusedSimpArgs false
set_option linter.unusedVariables false
set_option maxRecDepth 100000
namespace Go.Proofs.YtkjcljobcidhfaaDoor
open Go.RowKit Go.Lib Go.Sort

/-- Bytes in blocks from B on may have turned; all else is as it was, and rows of bytes are such rows still. -/
structure Spoilt (B : Nat) (w w' : World) : Prop where
  below : Below B w w'
  keep : KeepT 5 w w'
  own : ∀ p g n c x, Own B w p g n c x → ∃ x', Own B w' p g n c x'
section
variable {B : Nat} {w w1 w' : World}
theorem Spoilt.refl (B : Nat) (w : World) : Spoilt B w w := ⟨Below.refl _ _, KeepT.of_below 5 (Below.refl _ _), fun p g n c x h => ⟨x, h⟩⟩
theorem Spoilt.trans (h : Spoilt B w w1) (k : Spoilt B w1 w') : Spoilt B w w' :=
  ⟨h.below.trans k.below, ⟨fun q cc T hT hq => k.keep.keep q cc T hT (h.keep.keep q cc T hT hq), Nat.le_trans h.keep.size k.keep.size⟩, fun p g n c x N => by
    obtain ⟨x1, N1⟩ := h.own p g n c x N
    exact k.own p g n c x1 N1⟩
theorem Spoilt.of (hB : B ≤ w.heap.size) (h : Below w.heap.size w w') : Spoilt B w w' := ⟨h.mono hB, KeepT.of_below 5 h, fun p g n c x N => ⟨x, N.below h⟩⟩
theorem fbs_set (x : Nat → Nat) (n i y : Nat) : (fbs x n).set i (.int .u8 ((y : Nat) : Int)) = fbs (fun j => if j = i then y else x j) n := by
  apply List.ext_getElem?
  intro j
  rw [List.getElem?_set]
  rcases Nat.lt_or_ge j n with h | h
  · rw [fbs_at _ _ _ h, fbs_at _ _ _ h]
    by_cases e : i = j
    · subst e
      rw [if_pos rfl, if_pos (by rw [fbs_length]; exact h), if_pos rfl]
    · rw [if_neg e, if_neg (fun h => e h.symm)]
  · rw [List.getElem?_eq_none (by rw [fbs_length]; exact h), List.getElem?_eq_none (by rw [fbs_length]; exact h)]
    split <;> first | rfl | (split <;> first | rfl | (rw [fbs_length] at *; omega))
/-- A byte of a row of the call's own, written. -/
theorem Own.spoil {p : Option Addr} {g n c i y : Nat} {x : Nat → Nat} (N : Own B w p g n c x) (hi : i < n) (hy : y < 256) :
    Spoilt B w (w.setCell ⟨g, i, none⟩ (.int .u8 ((y : Nat) : Int))) ∧ ∃ cur, w.heap[g]? = some (.cells cur 5 (0, 0)) ∧ i < cur.size := by
  have hO : Only g w (w.setCell ⟨g, i, none⟩ (.int .u8 ((y : Nat) : Int))) := (Only.refl g w).setCell _ rfl _
  have N0 := N
  obtain ⟨h0, h1⟩ := N.own
  rcases h1 with ⟨h1, h2⟩ | ⟨g', cap, cur, h1, h2, h3, h4, h5, h6, h7⟩
  · omega
  · injection h1 with a1 a2 a3
    subst a3
    rcases N.spot with q | q
    · rw [q] at a1; cases a1
    · rw [q] at a1
      injection a1 with a1
      injection a1 with a1
      subst a1
      have hh : (w.setCell ⟨g, i, none⟩ (.int .u8 ((y : Nat) : Int))).heap[g]? = some (.cells (cur.setIfInBounds i (.int .u8 ((y : Nat) : Int))) 5 (0, 0)) := ((Holds.start h3).set rfl).here
      refine ⟨⟨hO.below h2 N.low, KeepT.of_only h3 hO, fun p2 g2 n2 c2 x2 M => ?_⟩, cur, h3, by omega⟩
      refine ⟨fun j => if g2 = g ∧ j = i then y else x2 j, ?_, M.spot, fun j => by split <;> first | exact hy | exact M.byte j, Nat.le_trans M.low hO.size⟩
      obtain ⟨k0, k1⟩ := M.own
      rcases k1 with ⟨k1, k2⟩ | ⟨g3, cap3, cur3, k1, k2, k3, k4, k5, k6, k7⟩
      · subst k2
        exact ⟨fbs_length _ _, .inl ⟨k1, rfl⟩⟩
      · injection k1 with b1 b2 b3
        have hg : g3 = g2 := by
          rcases M.spot with r | r
          · rw [r] at b1; cases b1
          · rw [r] at b1; injection b1 with b1; injection b1 with b1; exact b1.symm
        subst hg
        by_cases e : g3 = g
        · subst e
          rw [h3] at k3
          injection k3 with k3
          injection k3 with k3
          subst k3
          refine ⟨by rw [fbs_length, Nat.mul_one], .inr ⟨g3, cap3, cur.setIfInBounds i (.int .u8 ((y : Nat) : Int)), by rw [b1, b3], k2, hh, k4, k5, by simp [k6], ?_⟩⟩
          rw [Array.toList_setIfInBounds, List.take_set, k7, fbs_set]
          congr 1
          funext j
          simp
        · refine ⟨by rw [fbs_length, Nat.mul_one], .inr ⟨g3, cap3, cur3, by rw [b1, b3], k2, hO.heap e k3, k4, k5, k6, ?_⟩⟩
          rw [k7]
          exact fbs_congr fun j _ => by rw [if_neg fun h => e h.1]
end
theorem exec_xor8 {o : Oper} {ev : Operand → Value} {W : World} {x y : Operand} {a b z : Int} (ho : o.op = .binOp .xor 5 x y 5) (hx : ev x = .int .u8 a) (hy : ev y = .int .u8 b) (hz : IntKind.u8.wrap (((BitVec.ofInt 8 a ^^^ BitVec.ofInt 8 b).toNat : Nat) : Int) = z) : (execOp ev o).run Tryd.prog W = .ok (.value (.int .u8 z)) W := by
  subst hz
  unfold execOp
  simp only [ho, hx, hy]
  rfl
theorem xor8_nat (a b : Int) : ∃ y : Nat, y < 256 ∧ IntKind.u8.wrap (((BitVec.ofInt 8 a ^^^ BitVec.ofInt 8 b).toNat : Nat) : Int) = ((y : Nat) : Int) := by
  generalize (((BitVec.ofInt 8 a ^^^ BitVec.ofInt 8 b).toNat : Nat) : Int) = q
  refine ⟨(IntKind.u8.wrap q).toNat, ?_, ?_⟩ <;> · simp [IntKind.wrap, IntKind.bits, IntKind.signed]; omega
section
variable {ops : Array Oper} {rest : List Oper} {Q : Exit → Act → World → Prop} {op : Oper} {a : Act} {w : World}
theorem wpList_spoil1 {B : Nat} {p : Option Addr} {g n c : Nat} {x : Nat → Nat} (N : Hid (Own B w p g n c x)) (hg : op.guard = none) (xo yo : Operand) (ho : op.op = .store 5 xo yo) {i v : Nat} (hx : a.eval xo = .pointer (some ⟨g, i, none⟩)) (hy : a.eval yo = .int .u8 ((v : Nat) : Int)) (hi : i < n) (hv : v < 256)
    (h : ∀ w', Hid (Spoilt B w w') → Hid (∀ W, Fr g none W w → Fr g none W w') → wpList Tryd.prog ops Q rest (a.put op.dst undef) w') : wpList Tryd.prog ops Q (op :: rest) a w := by
  obtain ⟨S, cur, hc, hcs⟩ := N.out.spoil hi hv
  refine wpList_plain hg fun K hK => ?_
  unfold Oper.wp execOp
  simp only [ho, hx, hy, Sem.run_bind, Sem.run_pure, run_store_one (P := Tryd.prog) (ty := 5) (v := .int .u8 ((v : Nat) : Int)) (by kernel_rfl) rfl rfl (cell_of_here hc i (Array.getElem?_eq_getElem hcs)) (free_of_here hc i), Result.andThen_ok]
  exact hK _ _ (h _ (Lib.hid S) (Lib.hid fun W F => F.set i _))
end
set_option maxHeartbeats 4000000 in
theorem spoil1_any {B B2 : Nat} {W : World} {p p5 : Option Addr} {g g5 m c5 : Nat} {x0 : Nat → Nat} (NW : Hid (VOwn 26 1 B2 W p g 1 1 (fun _ => .slice p5 m c5))) (N0 : Hid (Own B W p5 g5 m c5 x0)) (m3 : m ≤ 140737488355328) : Calls Tryd.prog 11 #[.slice p 1 1] W fun e w' => e = .returned (.tuple #[]) ∧ Fr g5 none W w' := by
  have S := Lib.hid (Spoilt.refl B W)
  have F := Lib.hid (Fr.refl g5 none W)
  go_enter Tryd.func11, Tryd.ntmps11
  go_upto_region 1 with fail
  go_loopg [7] 1 (fun k i wr => ∃ j : Nat, j + k = 1 ∧ i = .int .i64 ((j : Nat) : Int) ∧ Hid (Spoilt B W wr) ∧ Hid (Fr g5 none W wr))
  case atStart => exact ⟨0, by omega, rfl, S, F⟩
  case round =>
    clear S F
    obtain ⟨j, hj, rfl, S, F⟩ := hrel
    obtain ⟨kk, hkk⟩ : ∃ kk : Nat, kk = gk := ⟨_, rfl⟩
    rw [← hkk] at hj
    by_cases hlt : j < 1
    · obtain rfl : j = 0 := by omega
      have N := Lib.hid (NW.out.keep S.out.keep (by decide))
      obtain rfl := N.out.row.head (by omega)
      have CC : Hid (wr.cell? ⟨g, 0 + 0, none⟩ = some (.slice p5 m c5)) := Lib.hid (N.out.row.cell 0 (by omega))
      have OX : Hid (∃ x, Own B wr p5 g5 m c5 x) := Lib.hid (S.out.own _ _ _ _ _ N0.out)
      go_upto_region 4 with (first
        | ((with_reducible refine wpList_at 9 rfl ?_); refine wpList_ix (k := 1) (j := 0) Tryd.underlying22 (by kernel_rfl) (.tmp 5) (.tmp 7) rfl rfl rfl rfl hlt rfl ?_; rw [Nat.mul_one])
        | ((with_reducible refine wpList_at 10 rfl ?_); refine wpList_ld1 26 (.tmp 9) rfl rfl rfl Tryd.underlying26 rfl CC.out ?_))
      clear CC N
      go_loopg [13] m (fun k i wr => ∃ q : Nat, q + k = m ∧ i = .int .i64 ((q : Nat) : Int) ∧ Hid (Spoilt B W wr) ∧ Hid (Fr g5 none W wr) ∧ Hid (∃ x, Own B wr p5 g5 m c5 x))
      case atStart => exact ⟨0, by omega, rfl, S, F, OX⟩
      case round =>
        clear S F OX
        obtain ⟨q, hq, rfl, S, F, OX⟩ := hrel
        obtain ⟨k2, rfl⟩ : ∃ k2 : Nat, k2 = gk := ⟨_, rfl⟩
        by_cases hq2 : q < m
        · obtain ⟨x, N5⟩ := OX.out
          have NX := Lib.hid N5
          obtain rfl := NX.out.row.head (by omega)
          have CX := Lib.hid (NX.out.row.cell q hq2)
          obtain ⟨xq, hxq⟩ : ∃ xq, xq = x q := ⟨_, rfl⟩
          rw [← hxq] at CX
          obtain ⟨y, hy, hyx⟩ := xor8_nat ((xq : Nat) : Int) 255
          have HYX := Lib.hid hyx
          clear hxq hyx N5 OX
          go_wp2_with (first
            | ((with_reducible refine wpList_at 18 rfl ?_); refine wpList_ix (k := 1) (j := q) Tryd.underlying26 (by kernel_rfl) (.tmp 16) (.tmp 17) rfl rfl rfl rfl hq2 rfl ?_; rw [Nat.mul_one, Nat.zero_add])
            | ((with_reducible refine wpList_at 19 rfl ?_); refine wpList_ld1 5 (.tmp 18) rfl rfl rfl Tryd.underlying5 rfl (by have := CX.out; rwa [Nat.zero_add] at this) ?_)
            | ((with_reducible refine wpList_at 20 rfl ?_); refine wpList_kn rfl (.int .u8 ((y : Nat) : Int)) (by exact exec_xor8 rfl rfl rfl HYX.out) ?_)
            | ((with_reducible refine wpList_at 21 rfl ?_); refine wpList_ix (k := 1) (j := q) Tryd.underlying26 (by kernel_rfl) (.tmp 16) (.tmp 17) rfl rfl rfl rfl hq2 rfl ?_; rw [Nat.mul_one, Nat.zero_add])
            | ((with_reducible refine wpList_atn rfl ?_); refine wpList_spoil1 NX rfl (.tmp 21) (.tmp 20) rfl rfl rfl hq2 hy ?_; intro w9 S9 F9))
          have OX2 : Hid (∃ x, Own B w9 (some ⟨g5, 0, none⟩) g5 m c5 x) := Lib.hid (S9.out.own _ _ _ _ _ NX.out)
          have S2 := Lib.hid (S.out.trans S9.out)
          have F2 := Lib.hid (F9.out _ F.out)
          clear NX CX S S9 F F9
          go_roundg (m - (q + 1))
          case measure => omega
          case rel => exact ⟨q + 1, by omega, by go_num, S2, F2, OX2⟩
        · obtain rfl : q = m := by omega
          go_wp2
          go_roundg (kk - 1)
          case measure => omega
          case rel => exact ⟨1, by omega, by go_num, S, F⟩
    · obtain rfl : j = 1 := by omega
      go_wp2
      go_end0
      exact ⟨rfl, F.out⟩
end Go.Proofs.YtkjcljobcidhfaaDoor
