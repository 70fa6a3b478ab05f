/- Spoil and SpoilBlock over memory of the call's own: what stays. -/
import Derived.Test.YtoopcmcmjaikhaaDoorYp
set_option linter.unusedSimpArgs false
set_option linter.unusedVariables false
set_option maxRecDepth 100000
namespace Go.Proofs.YtoopcmcmjaikhaaDoor
open Go.RowKit Go.Lib Go.Sort

theorem exec_xor8 {o : Oper} {ev : Operand → Value} {W : World} {x y : Operand} {a b z : Int} (ho : o.op = .binOp .xor 5 x y 5) (hx : ev x = .int .u8 a) (hy : ev y = .int .u8 b) (hz : IntKind.u8.wrap (((BitVec.ofInt 8 a ^^^ BitVec.ofInt 8 b).toNat : Nat) : Int) = z) : (execOp ev o).run Tryd.prog W = .ok (.value (.int .u8 z)) W := by
  subst hz
  unfold execOp
  simp only [ho, hx, hy]
  rfl
theorem xor8_nat (a b : Int) : ∃ y : Nat, y < 256 ∧ IntKind.u8.wrap (((BitVec.ofInt 8 a ^^^ BitVec.ofInt 8 b).toNat : Nat) : Int) = ((y : Nat) : Int) := by
  generalize (((BitVec.ofInt 8 a ^^^ BitVec.ofInt 8 b).toNat : Nat) : Int) = q
  refine ⟨(IntKind.u8.wrap q).toNat, ?_, ?_⟩ <;> · simp [IntKind.wrap, IntKind.bits, IntKind.signed]; omega
section
variable {ops : Array Oper} {rest : List Oper} {Q : Exit → Act → World → Prop} {op : Oper} {a : Act} {w : World}
theorem wpList_spoil {B : Nat} {p : Option Addr} {g n c : Nat} {x : Nat → Nat} (N : Hid (Own B w p g n c x)) (hg : op.guard = none) (xo yo : Operand) (ho : op.op = .store 5 xo yo) {i v : Nat} (hx : a.eval xo = .pointer (some ⟨g, i, none⟩)) (hy : a.eval yo = .int .u8 ((v : Nat) : Int)) (hi : i < n) (hv : v < 256)
    (h : ∀ w', Hid (Spoilt B w w') → wpList Tryd.prog ops Q rest (a.put op.dst undef) w') : wpList Tryd.prog ops Q (op :: rest) a w := by
  obtain ⟨S, cur, hc, hcs⟩ := N.out.spoil hi hv
  refine wpList_plain hg fun K hK => ?_
  unfold Oper.wp execOp
  simp only [ho, hx, hy, Sem.run_bind, Sem.run_pure, run_store_one (P := Tryd.prog) (ty := 5) (v := .int .u8 ((v : Nat) : Int)) (by kernel_rfl) rfl rfl (cell_of_here hc i (Array.getElem?_eq_getElem hcs)) (free_of_here hc i), Result.andThen_ok]
  exact hK _ _ (h _ (Lib.hid S))
end
set_option maxHeartbeats 4000000 in
theorem spoil_any {B : Nat} {W : World} {v : Value} {ts : List (List Nat)} (A : Hid (TextsOwn B W v ts)) : Calls Tryd.prog 21 #[v] W fun e w' => e = .returned (.tuple #[]) ∧ Spoilt B W w' := by
  obtain ⟨p, g, c, V, rfl, hl, N0, I0⟩ := A.out
  have NW := Lib.hid N0
  have TI := Lib.hid I0
  obtain ⟨n, hn⟩ : ∃ n, n = ts.length := ⟨_, rfl⟩
  have HN := Lib.hid hn
  rw [← hn] at NW hl ⊢
  have n3 : n ≤ 140737488355328 := by omega
  have S := Lib.hid (Spoilt.refl B W)
  clear hn hl N0 I0 A
  go_enter Tryd.func21, Tryd.ntmps21
  go_upto_region 1 with fail
  go_loopg [7] n (fun k i wr => ∃ j : Nat, j + k = n ∧ i = .int .i64 ((j : Nat) : Int) ∧ Hid (Spoilt B W wr))
  case atStart => exact ⟨0, by omega, rfl, S⟩
  case round =>
    clear S
    obtain ⟨j, hj, rfl, S⟩ := hrel
    obtain ⟨kk, rfl⟩ : ∃ kk : Nat, kk = gk := ⟨_, rfl⟩
    by_cases hlt : j < n
    · have ht : j < ts.length := by rw [← HN.out]; exact hlt
      have N := Lib.hid (NW.out.keep S.out.keep (by decide))
      obtain rfl := N.out.row.head (by omega)
      obtain ⟨t', p5, g5, c5, hv5, hl5, N5⟩ := (TI.out j ht).spoilt S.out
      have CC : Hid (wr.cell? ⟨g, 0 + j, none⟩ = some (.slice p5 t'.length c5)) := Lib.hid (by rw [← hv5]; exact N.out.row.cell j (by omega))
      obtain ⟨m, hm⟩ : ∃ m, m = t'.length := ⟨_, rfl⟩
      rw [← hm] at CC N5 hl5
      have m3 : m ≤ 140737488355328 := by omega
      have OX : Hid (∃ x, Own B wr p5 g5 m c5 x) := Lib.hid ⟨_, N5⟩
      clear hm hv5 hl5 N5
      go_upto_region 4 with (first
        | ((with_reducible refine wpList_at 9 rfl ?_); refine wpList_ix (k := 1) (j := j) Tryd.underlying30 (by kernel_rfl) (.tmp 5) (.tmp 7) rfl rfl rfl rfl hlt rfl ?_; rw [Nat.mul_one])
        | ((with_reducible refine wpList_at 10 rfl ?_); refine wpList_ld1 32 (.tmp 9) rfl rfl rfl Tryd.underlying32 rfl CC.out ?_))
      clear CC N
      go_loopg [13] m (fun k i wr => ∃ q : Nat, q + k = m ∧ i = .int .i64 ((q : Nat) : Int) ∧ Hid (Spoilt B W wr) ∧ Hid (∃ x, Own B wr p5 g5 m c5 x))
      case atStart => exact ⟨0, by omega, rfl, S, OX⟩
      case round =>
        clear S OX
        obtain ⟨q, hq, rfl, S, OX⟩ := hrel
        obtain ⟨k2, rfl⟩ : ∃ k2 : Nat, k2 = gk := ⟨_, rfl⟩
        by_cases hq2 : q < m
        · obtain ⟨x, N5⟩ := OX.out
          have NX := Lib.hid N5
          obtain rfl := NX.out.row.head (by omega)
          have CX := Lib.hid (NX.out.row.cell q hq2)
          obtain ⟨xq, hxq⟩ : ∃ xq, xq = x q := ⟨_, rfl⟩
          rw [← hxq] at CX
          obtain ⟨y, hy, hyx⟩ := xor8_nat ((xq : Nat) : Int) 255
          have HYX := Lib.hid hyx
          clear hxq hyx N5 OX
          go_wp2_with (first
            | ((with_reducible refine wpList_at 18 rfl ?_); refine wpList_ix (k := 1) (j := q) Tryd.underlying32 (by kernel_rfl) (.tmp 16) (.tmp 17) rfl rfl rfl rfl hq2 rfl ?_; rw [Nat.mul_one, Nat.zero_add])
            | ((with_reducible refine wpList_at 19 rfl ?_); refine wpList_ld1 5 (.tmp 18) rfl rfl rfl Tryd.underlying5 rfl (by have := CX.out; rwa [Nat.zero_add] at this) ?_)
            | ((with_reducible refine wpList_at 20 rfl ?_); refine mem_known rfl (.int .u8 ((y : Nat) : Int)) _ (exec_xor8 rfl rfl rfl HYX.out) ?_)
            | ((with_reducible refine wpList_at 21 rfl ?_); refine wpList_ix (k := 1) (j := q) Tryd.underlying32 (by kernel_rfl) (.tmp 16) (.tmp 17) rfl rfl rfl rfl hq2 rfl ?_; rw [Nat.mul_one, Nat.zero_add])
            | ((with_reducible refine wpList_atn rfl ?_); refine wpList_spoil NX rfl (.tmp 21) (.tmp 20) rfl rfl rfl hq2 hy ?_; intro w9 S9))
          have OX2 : Hid (∃ x, Own B w9 (some ⟨g5, 0, none⟩) g5 m c5 x) := Lib.hid (S9.out.own _ _ _ _ _ NX.out)
          have S2 := Lib.hid (S.out.trans S9.out)
          clear NX CX S S9
          go_roundg (m - (q + 1))
          case measure => omega
          case rel => exact ⟨q + 1, by omega, by go_num, S2, OX2⟩
        · obtain rfl : q = m := by omega
          go_wp2
          go_roundg (n - (j + 1))
          case measure => omega
          case rel => exact ⟨j + 1, by omega, by go_num, S⟩
    · obtain rfl : j = n := by omega
      go_wp2
      go_end0
      exact ⟨rfl, S.out⟩
end Go.Proofs.YtoopcmcmjaikhaaDoor

