/- For every slice of bytes (nil too), every place and every byte: a frame of at most 500 of these bytes and one more is written; with one byte of its payload turned by that byte, the program's reader and the document's tell the same fault, and none when nothing was turned; the call returns true. The tables that the row lists (those of package sha, and two of the library's on UTF-8, one of them pinned) are laid as the card ties them. No other condition. -/
import Derived.Test.YtkjcljobcidhfaaDoorGp
import Derived.Test.YtkjcljobcidhfaaDoorGf
import Derived.Test.YtkjcljobcidhfaaDoorRge
import Derived.Test.YtkjcljobcidhfaaDoorSFLaid
import Derived.Test.YtkjcljobcidhfaaDoorTie
import Derived.Test.YtkjcljobcidhfaaDoorCards
import Derived.Lay
import Derived.Deep.MidRow
import Derived.ShutString
import Derived.ChangeOld
import Derived.Below
import Derived.SevenTiedAt
set_option linter.unusedVariables false
set_option linter.unusedSimpArgs false
namespace Go.Proofs.YtkjcljobcidhfaaDoor.frameSums
open Go.ChangeShapes Go.WideShapes Go.ChangeAt Go.RowKit Go.Lib Go.Sort Go.Proofs.YtkjcljobcidhfaaDoor

set_option maxRecDepth 100000
theorem own_put {w : World} {p : Option Addr} {B g n c i v : Nat} {x : Nat → Nat} (N : Own B w p g n c x) (hi : i < n) (hv : v < 256) : Own B (w.setCell ⟨g, i, none⟩ (.int .u8 (v : Int))) p g n c (fun k => if k = i then v else x k) ∧ Below B w (w.setCell ⟨g, i, none⟩ (.int .u8 (v : Int))) ∧ w.frozen? ⟨g, i, none⟩ = false := by
  obtain rfl := N.row.head (by omega)
  obtain ⟨hl, h | ⟨g', cap, cur, hv', hb, hg, hn, hc, hs, ht⟩⟩ := N.own
  · cases h.1
  · cases hv'
    rw [Nat.mul_one] at hs ht
    have H := (Holds.start hg).set (i := i) (v := .int .u8 (v : Int)) rfl
    have hb2 : Below B w (w.setCell ⟨g, i, none⟩ (.int .u8 (v : Int))) := ⟨H.only.os, H.only.tape, H.only.output, H.only.size, fun k hk => H.only.block k (by have := N.low; omega) (by omega)⟩
    refine ⟨⟨⟨by rw [fbs_length, Nat.mul_one], .inr ⟨g, c, _, rfl, hb, H.here, hn, hc, by rw [Array.size_setIfInBounds, hs, Nat.mul_one], ?_⟩⟩, .inr rfl, fun k => ?_, Nat.le_trans N.low hb2.size⟩, hb2, free_of_here hg i⟩
    · rw [Nat.mul_one]
      apply List.ext_getElem?
      intro k
      have h1 : (cur.toList.take n)[k]? = (fbs x n)[k]? := by rw [ht]
      rcases Nat.lt_or_ge k n with q | q
      · rw [List.getElem?_take_of_lt q] at h1 ⊢
        rw [fbs_at _ _ _ q] at h1 ⊢
        rw [Array.toList_setIfInBounds, List.getElem?_set]
        by_cases e : i = k
        · subst e
          rw [if_pos rfl, if_pos (by rw [Array.length_toList]; omega), if_pos rfl]
        · rw [if_neg e, if_neg (fun h => e h.symm), h1]
      · rw [List.getElem?_eq_none (by rw [List.length_take]; omega), List.getElem?_eq_none (by rw [fbs_length]; exact q)]
    · split
      · exact hv
      · exact N.byte k
section
variable {ops : Array Oper} {rest : List Oper} {Q : Exit → Act → World → Prop} {op : Oper} {a : Act} {w : World}
theorem wpList_bput (hg : op.guard = none) (x y : Operand) (ho : op.op = .store 5 x y) {B g n c i v : Nat} {p : Option Addr} {f : Nat → Nat} (N : Hid (Own B w p g n c f)) (hx : a.eval x = .pointer (some ⟨g, 0 + i * 1, none⟩)) (hy : a.eval y = .int .u8 (v : Int)) (hi : i < n) (hv : v < 256)
    (k : ∀ w', Hid (Own B w' p g n c fun k => if k = i then v else f k) → Hid (Below B w w') → wpList Tryd.prog ops Q rest (a.put op.dst undef) w') : wpList Tryd.prog ops Q (op :: rest) a w := by
  obtain ⟨O, hb, hf⟩ := own_put N.out hi hv
  rw [Nat.zero_add, Nat.mul_one] at hx
  have hc := N.out.row.cell i hi
  rw [Nat.zero_add] at hc
  refine wpList_plain hg fun K hK => ?_
  unfold Oper.wp execOp
  simp only [ho, hx, hy, Sem.run_bind, Sem.run_pure, run_store_one (P := Tryd.prog) (ty := 5) (v := .int .u8 (v : Int)) (by kernel_rfl) rfl rfl hc hf, Result.andThen_ok]
  exact hK _ _ (k _ (Lib.hid O) (Lib.hid hb))
end
theorem exec_xor8 {o : Oper} {ev : Operand → Value} {W : World} {x y : Operand} {a b z : Int} (ho : o.op = .binOp .xor 5 x y 5) (hx : ev x = .int .u8 a) (hy : ev y = .int .u8 b) (hz : IntKind.u8.wrap (((BitVec.ofInt 8 a ^^^ BitVec.ofInt 8 b).toNat : Nat) : Int) = z) : (execOp ev o).run Tryd.prog W = .ok (.value (.int .u8 z)) W := by
  subst hz
  unfold execOp
  simp only [ho, hx, hy]
  rfl
theorem u8_nat {a : Int} (h : (Lit.int .u8 a).wf = true) : ∃ y : Nat, a = ((y : Nat) : Int) ∧ y < 256 := by
  have h' : 0 ≤ a ∧ a ≤ 255 := by
    simp [Lit.wf, IntKind.min, IntKind.max, IntKind.bits, IntKind.signed] at h
    omega
  exact ⟨a.toNat, by omega, by omega⟩

theorem xor8_nat (a b : Int) : ∃ y : Nat, y < 256 ∧ IntKind.u8.wrap (((BitVec.ofInt 8 a ^^^ BitVec.ofInt 8 b).toNat : Nat) : Int) = ((y : Nat) : Int) := by
  generalize (((BitVec.ofInt 8 a ^^^ BitVec.ofInt 8 b).toNat : Nat) : Int) = q
  refine ⟨(IntKind.u8.wrap q).toNat, ?_, ?_⟩ <;> · simp [IntKind.wrap, IntKind.bits, IntKind.signed]; omega
theorem xor8_zero : ∀ a : Nat, a < 256 → IntKind.u8.wrap (((BitVec.ofInt 8 (a : Int) ^^^ BitVec.ofInt 8 0).toNat : Nat) : Int) = (a : Int) := by decide +kernel
theorem exec_cvU {o : Oper} {ev : Operand → Value} {W : World} {x : Operand} {a r : Int} (ho : o.op = .convert 3 45 x) (hx : ev x = .int .i64 a) (hr : IntKind.u64.wrap a = r) : (execOp ev o).run Tryd.prog W = .ok (.value (.int .u64 r)) W := by
  subst hr
  unfold execOp
  simp [ho, hx, go_sem, convert, Tryd.underlying45, Tryd.underlying3]
theorem exec_cvI {o : Oper} {ev : Operand → Value} {W : World} {x : Operand} {a r : Int} (ho : o.op = .convert 45 3 x) (hx : ev x = .int .u64 a) (hr : IntKind.i64.wrap a = r) : (execOp ev o).run Tryd.prog W = .ok (.value (.int .i64 r)) W := by
  subst hr
  unfold execOp
  simp [ho, hx, go_sem, convert, Tryd.underlying45, Tryd.underlying3]
theorem exec_remU {o : Oper} {ev : Operand → Value} {W : World} {x y : Operand} {a b : Nat} (ho : o.op = .binOp .rem 45 x y 45) (hx : ev x = .int .u64 (a : Int)) (hy : ev y = .int .u64 (b : Int)) (hb : 0 < b) (ha : a < 18446744073709551616) : (execOp ev o).run Tryd.prog W = .ok (.value (.int .u64 ((a % b : Nat) : Int))) W := by
  have h1 : ¬ (b : Int) = 0 := by omega
  have h2 : a % b < 18446744073709551616 := Nat.lt_of_le_of_lt (Nat.mod_le _ _) ha
  have h3 : IntKind.u64.wrap (((a % b : Nat) : Nat) : Int) = ((a % b : Nat) : Int) := by rw [IntKind.wrap_u64]; omega
  have h4 : ((a : Int)).tmod (b : Int) = ((a % b : Nat) : Int) := by rw [Int.tmod_eq_emod_of_nonneg (by omega)]; omega
  unfold execOp
  simp [ho, hx, hy, go_sem, Tryd.underlying45, h1, h4, h3]
  omega
theorem row_1 (w : World) : Row (w.alloc (.cells #[.int .u8 1] 5)) (some ⟨w.heap.size, 0, none⟩) w.heap.size 0 1 1 (lf [1]) := by
  refine (row_one w 1 (by omega)).to (fun i hi => ?_) (lf_lt fun x hx => ?_)
  · obtain rfl : i = 0 := by omega
    rfl
  · obtain rfl := List.mem_singleton.1 hx
    omega
theorem exec_neqi {o : Oper} {ev : Operand → Value} {W : World} {x y : Operand} {a b : Int} {q : Bool} (ho : o.op = .binOp .neq 3 x y 3) (hx : ev x = .int .i64 a) (hy : ev y = .int .i64 b) (hq : decide (a = b) = !q) : (execOp ev o).run Tryd.prog W = .ok (.value (.bool q)) W := by
  obtain rfl : q = !decide (a = b) := by rw [hq]; simp
  unfold execOp
  by_cases h : a = b
  · subst h
    simp [ho, hx, hy, go_sem, Tryd.underlying3]
  · simp [ho, hx, hy, go_sem, Tryd.underlying3, h]
theorem exec_neq5 {o : Oper} {ev : Operand → Value} {W : World} {x y : Operand} {a b : Int} {q : Bool} (ho : o.op = .binOp .neq 5 x y 5) (hx : ev x = .int .u8 a) (hy : ev y = .int .u8 b) (hq : decide (a = b) = !q) : (execOp ev o).run Tryd.prog W = .ok (.value (.bool q)) W := by
  obtain rfl : q = !decide (a = b) := by rw [hq]; simp
  unfold execOp
  by_cases h : a = b
  · subst h
    simp [ho, hx, hy, go_sem, Tryd.underlying5]
  · simp [ho, hx, hy, go_sem, Tryd.underlying5, h]
theorem exec_eqE {o : Oper} {ev : Operand → Value} {W : World} {x y : Operand} {a : Int} (ho : o.op = .binOp .eql 27 x y 27) (hx : ev x = .int .i64 a) (hy : ev y = .int .i64 a) : (execOp ev o).run Tryd.prog W = .ok (.value (.bool true)) W := by
  unfold execOp
  simp [ho, hx, hy, go_sem, Tryd.underlying27]
theorem bs_one (W : World) : (Instr.buildSlice 26 1 #[(0, .int .u8 1)]).run Tryd.prog W = .ok (.slice (some ⟨W.heap.size, 0, none⟩) 1 1) (W.alloc (.cells #[.int .u8 1] 5)) := by kernel_rfl
section
variable {ops : Array Oper} {rest : List Oper} {Q : Exit → Act → World → Prop} {op : Oper} {a : Act} {w : World}
theorem wpList_bs1 (hw : Region.wanted op (yielded ops a.tmps) = true) (parts : Array (Nat × Operand)) (ho : op.op = .buildSlice 26 1 parts) (hp : (parts.map fun (i, y) => (i, a.eval y)) = #[(0, .int .u8 1)])
    (k : ∀ p w' g, Hid (Row w' p g 0 1 1 (lf [1])) → Hid (Below w.heap.size w w') → wpList Tryd.prog ops Q rest (a.put op.dst (.slice p 1 1)) w') : wpList Tryd.prog ops Q (op :: rest) a w := by
  refine BigFrame.wpList_want hw fun K hK => mo_known _ _ ?_ (hK _ _ (k _ _ _ (Lib.hid (row_1 w)) (Lib.hid (below_new w _))))
  unfold execOp
  simp only [ho, hp, Sem.run_bind, bs_one w, Result.andThen_ok]
  rfl
end
def txS : ByteArray := ⟨#[116, 120]⟩
theorem com_tx : isCom (sb txS) txS.size = true := by decide +kernel
theorem com_tx2 : isCom (lf (stB txS)) (stB txS).length = true := by decide +kernel
theorem box_rd : (Value.agg #[.slice none 0 0, .int .i64 0]).cells = #[.slice none 0 0, .int .i64 0] := rfl
theorem built_rd0 : Tryd.prog.built 29 (#[] : Array (Nat × Value)).toList = some #[.slice none 0 0, .int .i64 0] := by kernel_rfl
/-- Bytes with one of them turned. -/
theorem tl_put {zs : List Nat} {i v : Nat} (h : lf zs i = v) : tl (fun k => if k = i then v else lf zs k) zs.length = zs := by
  have e : (fun k => if k = i then v else lf zs k) = lf zs := funext fun k => by
    split
    · rename_i q; subst q; exact h.symm
    · rfl
  rw [e, tl_lf]
set_option maxHeartbeats 16000000 in
theorem walk (W : World) (hL : laidMetH Tryd.prog S.frLaid W) (a0 : Option Addr) (g0 o0 n0 c0 : Nat) (x0 : Nat → Nat) (w0 : Row W a0 g0 o0 n0 c0 x0) (m0 : c0 ≤ 140737488351232) (a1 : Int) (w1 : (Lit.int .i64 a1).wf = true) (a2 : Int) (w2 : (Lit.int .u8 a2).wf = true) :
    Calls Tryd.prog 6 #[.slice a0 n0 c0, .int .i64 a1, .int .u8 a2] W fun e w' => e = .returned (.bool true) ∧ Below W.heap.size W w' := by
  have KL := Lib.hid (show S.Both W from S.of_fr hL)
  obtain ⟨dl, rfl, hdl⟩ := u8_nat w2
  clear hL w1 w2
  have le := w0.le
  have XB := Lib.hid w0.byte
  obtain ⟨k, hk⟩ : ∃ k, k = min n0 500 := ⟨_, rfl⟩
  have HK := Lib.hid (show min (n0 : Int) 500 = ((k : Nat) : Int) by omega)
  have k5 : k ≤ 500 := by omega
  obtain ⟨p1, S1, R1⟩ := sl_of0 w0 k (by omega)
  have S1 := Lib.hid S1
  have C := Lib.hid (clone_any (Lib.hid R1) (by omega))
  obtain ⟨k1, hk1⟩ : ∃ k1, k1 = k + 1 := ⟨_, rfl⟩
  have HK1 := Lib.hid hk1
  obtain ⟨n7, hn7⟩ : ∃ n7, n7 = 24 + k1 := ⟨_, rfl⟩
  have HN7 := Lib.hid hn7
  obtain ⟨dt, hdt⟩ : ∃ dt, dt = tl x0 k ++ [1] := ⟨_, rfl⟩
  have dl1 : dt.length = k1 := by rw [hdt, List.length_append, tl_length, hk1]; rfl
  obtain ⟨u, hu⟩ : ∃ u : Nat, u = (IntKind.u64.wrap a1).toNat := ⟨_, rfl⟩
  have hu2 : IntKind.u64.wrap a1 = ((u : Nat) : Int) ∧ u < 18446744073709551616 := by
    rw [hu, IntKind.wrap_u64]
    omega
  have HU := Lib.hid hu2.1
  have HU2 := Lib.hid hu2.2
  obtain ⟨i, hi⟩ : ∃ i, i = u % k1 := ⟨_, rfl⟩
  have ik : i < k1 := by rw [hi]; exact Nat.mod_lt _ (by omega)
  have HI := Lib.hid hi
  have HIK := Lib.hid ik
  have HK5 := Lib.hid k5
  have DL := Lib.hid dl1
  have HDT := Lib.hid hdt
  have HX := Lib.hid hdl
  have n0b : n0 ≤ 140737488351232 := by omega
  obtain ⟨j7, hj7⟩ : ∃ j7, j7 = 24 + i := ⟨_, rfl⟩
  have HJ7 := Lib.hid hj7
  clear hu hu2 hk hdt le w0 m0 R1 hi hk1 hn7 hj7
  go_enter Tryd.func6, Tryd.ntmps6
  go_upto_region 2 with (first
    | ((with_reducible refine wpList_at 17 rfl ?_); refine wpList_kn rfl (.int .i64 (k : Int)) (by exact exec_min rfl rfl rfl rfl HK.out) ?_)
    | ((with_reducible refine wpList_at 18 rfl ?_); refine wpList_kn rfl (.slice p1 k c0) (by exact exec_sl rfl (S1.out _)) ?_)
    | (go_at_call 8; refine C.out.mono ?_; rintro e w3 ⟨p3, g3, c3, rfl, N, hb⟩; have N3 := Lib.hid N; have HB := Lib.hid hb; clear N hb)
    | ((with_reducible refine wpList_at 20 rfl ?_); refine wpList_bs1 rfl _ rfl (by kernel_rfl) ?_; intro p4 w4 g4 R4 hb4; replace N3 := Lib.hid (N3.out.below hb4.out); replace HB := Lib.hid (HB.out.trans (hb4.out.mono HB.out.size)); clear hb4)
    | ((with_reducible refine wpList_at 21 rfl ?_); refine wpList_app (.inr rfl) (.tmp 19) (.tmp 20) rfl rfl N3 rfl R4 (by omega) ?_; intro p5 g5 c5 w5 N5 hb5; (have e1 := HK1.out; rw [← e1] at N5 ⊢; clear e1); replace HB := Lib.hid (HB.out.trans hb5.out); clear N3 R4 hb5))
  have N6 := Lib.hid (show Own W.heap.size w5 p5 g5 dt.length c5 (lf dt) from by
    have hx : Own W.heap.size w5 p5 g5 k1 c5 (lf dt) := N5.out.to (fun i hi => by
      rw [HDT.out, ← lf_cat, tl_length]
      unfold cat
      split
      · rw [lf_tl _ (by assumption)]
      · rfl) (lf_lt (by
      rw [HDT.out]
      exact IsB.append (isB_tl XB.out k) fun x hx => by obtain rfl := List.mem_singleton.1 hx; omega))
    rw [DL.out]; exact hx)
  clear N5
  obtain ⟨zs, hz⟩ : ∃ zs, zs = frB (stB txS) dt := ⟨_, rfl⟩
  have HZ := Lib.hid hz
  have zl : zs.length = n7 := by rw [hz, frB_length (by decide +kernel), DL.out, HN7.out]
  have ZL := Lib.hid zl
  have A := Lib.hid (show TextAt w5 (.slice p5 k1 c5) dt from ⟨p5, g5, 0, c5, by rw [DL.out], by have := DL.out; have := HK1.out; have := HK5.out; omega, N6.out.row⟩)
  have FR := Lib.hid (show Calls Tryd.prog 15 #[.agg #[.string txS, .slice p5 k1 c5]] w5 fun e w' => ∃ p g c, e = .returned (.tuple #[.slice p (n7) c, .int .i64 0]) ∧ Own w5.heap.size w' p g (n7) c (lf zs) ∧ Below w5.heap.size w5 w' from (frenc_any (s := txS) (by decide) A (Lib.hid (KL.out.below HB.out))).mono fun e w' h => by
    unfold FrEnc at h
    rwa [if_pos com_tx, if_pos (by have := DL.out; have := HK5.out; have := HK1.out; omega), ← hz, zl] at h)
  have ZB := Lib.hid (show IsB dt from isB_own N6.out)
  clear zl hz
  have HP1 := Lib.hid (show IntKind.i64.wrap ((24 : Int) + ((k1 : Nat) : Int)) = ((n7 : Nat) : Int) by have := HK5.out; have := HK1.out; have := HN7.out; rw [IntKind.wrap_i64]; omega)
  have HP2 := Lib.hid (show IntKind.u64.wrap ((k1 : Nat) : Int) = ((k1 : Nat) : Int) by have := HK5.out; have := HK1.out; rw [IntKind.wrap_u64]; omega)
  have HP3 := Lib.hid (show IntKind.i64.wrap (i : Int) = (i : Int) by have := HK5.out; have := HK1.out; have := HIK.out; rw [IntKind.wrap_i64]; omega)
  have HP4 := Lib.hid (show IntKind.i64.wrap ((24 : Int) + (i : Int)) = ((j7 : Nat) : Int) by have := HK5.out; have := HK1.out; have := HJ7.out; have := HIK.out; rw [IntKind.wrap_i64]; omega)
  have HJ := Lib.hid (show j7 < n7 by have := HIK.out; have := HJ7.out; have := HN7.out; omega)
  obtain ⟨y, hy, hxor⟩ := xor8_nat ((lf zs (j7) : Nat) : Int) ((dl : Nat) : Int)
  have HX2 := Lib.hid hxor
  have HY := Lib.hid hy
  clear hxor hy ik dl1 k5 n0b
  go_upto_region 6 with (first
    | ((with_reducible refine wpList_at 24 rfl ?_); refine wpList_bld 42 _ rfl rfl (ps := #[(0, .string txS), (1, .slice p5 k1 c5)]) (by kernel_rfl) (built_frv _ _ _ _) ?_)
    | (go_at_call 15; refine FR.out.mono ?_; rintro e w7 ⟨p7, g7, c7, rfl, N7x, hb7⟩; have N7 := Lib.hid N7x; have HB7 := Lib.hid hb7; have P7 := N7.out.row.head (by have := HN7.out; omega); subst P7; have C7 := Lib.hid (N7.out.row.cell j7 HJ.out); have NB7 := Lib.hid N7.out.byte; clear hb7 N7x)
    | ((with_reducible refine wpList_at 35 rfl ?_); refine wpList_kn rfl (.int .i64 ((n7 : Nat) : Int)) (by exact exec_add rfl rfl rfl HP1.out) ?_)
    | ((with_reducible refine wpList_at 36 rfl ?_); refine wpList_kn rfl (.bool false) (by exact exec_neqi rfl rfl rfl (decide_eq_true rfl)) ?_)
    | ((with_reducible refine wpList_at 40 rfl ?_); refine wpList_kn rfl (.int .u64 (u : Int)) (by exact exec_cvU rfl rfl HU.out) ?_)
    | ((with_reducible refine wpList_at 43 rfl ?_); refine wpList_kn rfl (.int .u64 ((k1 : Nat) : Int)) (by exact exec_cvU rfl rfl HP2.out) ?_)
    | ((with_reducible refine wpList_at 44 rfl ?_); refine wpList_kn rfl (.int .u64 (i : Int)) (by rw [HI.out]; exact exec_remU rfl rfl rfl (by have := HK1.out; omega) HU2.out) ?_)
    | ((with_reducible refine wpList_at 45 rfl ?_); refine wpList_kn rfl (.int .i64 (i : Int)) (by exact exec_cvI rfl rfl HP3.out) ?_)
    | ((with_reducible refine wpList_at 46 rfl ?_); refine wpList_kn rfl (.int .i64 ((j7 : Nat) : Int)) (by exact exec_add rfl rfl rfl HP4.out) ?_)
    | ((with_reducible refine wpList_at 47 rfl ?_); refine wpList_ix (k := 1) (j := j7) Tryd.underlying26 (by kernel_rfl) (.tmp 38) (.tmp 46) rfl rfl rfl rfl HJ.out rfl ?_)
    | ((with_reducible refine wpList_at 48 rfl ?_); refine wpList_ld1 5 (.tmp 47) rfl rfl rfl Tryd.underlying5 rfl (by rw [Nat.mul_one]; exact C7.out) ?_)
    | ((with_reducible refine wpList_at 50 rfl ?_); refine wpList_kn rfl (.int .u8 (y : Int)) (by exact exec_xor8 rfl rfl rfl HX2.out) ?_)
    | ((with_reducible refine wpList_at 51 rfl ?_); refine wpList_ix (k := 1) (j := j7) Tryd.underlying26 (by kernel_rfl) (.tmp 38) (.tmp 46) rfl rfl rfl rfl HJ.out rfl ?_)
    | ((with_reducible refine wpList_atn rfl ?_); refine wpList_bput rfl (.tmp 51) (.tmp 50) rfl N7 rfl rfl HJ.out HY.out ?_; intro w8 N8 hb8))
  obtain ⟨ys, hys⟩ : ∃ ys, ys = tl (fun q => if q = j7 then y else lf zs q) (n7) := ⟨_, rfl⟩
  have yl : ys.length = n7 := by rw [hys, tl_length]
  have YL := Lib.hid yl
  have N9 := Lib.hid (show Row w8 (some ⟨g7, 0, none⟩) g7 0 ys.length c7 (lf ys) from by
    have := N8.out.tl.row
    rwa [← hys] at this)
  have HB8 := Lib.hid (HB7.out.trans hb8.out)
  have BW := Lib.hid (HB.out.trans (HB8.out.mono HB.out.size))
  have HYS := Lib.hid hys
  have NEW1 := Lib.hid (frnew_any w8)
  have YL7b := Lib.hid yl
  have YL7 := Lib.hid (show ys.length ≤ 600 by have := HK5.out; have := HK1.out; have := HN7.out; have := YL.out; omega)
  clear hys hb8 N7 C7 FR A
  clear yl
  go_upto_region 9 with (first
    | (go_at_call 7; refine NEW1.out.mono ?_; rintro e w9 ⟨br, bu, rfl, T1⟩; have T1 := Lib.hid T1; have FE := Lib.hid (feed_any T1 (Lib.hid (N9.out.below T1.out.under0)) (by have := YL7.out; simp only [List.length_nil]; omega) (Lib.hid (KL.out.below BW.out))); rw [YL7b.out] at FE)
    | (go_at_call 9; refine FE.out.mono ?_; rintro e w10 ⟨fs, r, er, pf, gf, cf, V, hF, rfl, _, ⟨p9, g9, c9, T2, _, _⟩⟩; have HF := Lib.hid hF; have B2 := Lib.hid T2.under0; have E := Lib.hid (Mem.nil w10); clear hF T2)
    | ((with_reducible refine wpList_at 58 rfl ?_); refine wpList_bld 29 _ rfl rfl (ps := #[]) (by kernel_rfl) built_rd0 ?_)
    | ((with_reducible refine wpList_at 59 rfl ?_); refine mem_box (c := #[.slice none 0 0, .int .i64 0]) E 29 rfl _ rfl rfl rfl ?_; clear E; intro bx w11 E; have RQ := Lib.hid (show Rq w10 bx (.slice none ([] : List Nat).length 0) 0 none 0 0 [] w11 from ⟨E.out, own_nothing _ _ _ (lf_lt isB_nil) E.out.below.size, fun q hq => by obtain rfl := List.mem_singleton.1 hq; show 29 ≠ 5; decide⟩); have RE := Lib.hid (rfeed_any RQ (Lib.hid ((N9.out.below B2.out).below E.out.below)) (by have := YL7.out; simp only [List.length_nil]; omega)); rw [YL7b.out] at RE)
    | (go_at_call 10; refine RE.out.mono ?_; rintro e w12 ⟨fs2, r2, er2, pf2, gf2, cf2, V2, hF2, rfl, _, hb12, _⟩; have HF2 := Lib.hid hF2; have B3 := Lib.hid hb12; clear hF2 hb12))
  obtain ⟨_, _, e3⟩ := (show Feeds ys fs r er from HF.out).one (show Feeds ys fs2 r2 er2 from HF2.out)
  subst e3
  have FIN := Lib.hid (BW.out.trans ((B2.out.trans (B3.out.mono B2.out.size)).mono BW.out.size))
  rcases Nat.eq_zero_or_pos dl with h0 | h0
  · have hz0 : er = 0 := by
      have h1 := xor8_zero (lf zs j7) (NB7.out j7)
      have h3 : ((lf zs j7 : Nat) : Int) = ((y : Nat) : Int) := h1.symm.trans (by have := HX2.out; rw [h0] at this; exact this)
      have e : ys = zs := by
        rw [HYS.out, ← ZL.out]
        exact tl_put (by omega)
      have F0 : Feeds zs [(strX (lf (stB txS)) (stB txS).length, dt)] [] 0 := by
        rw [HZ.out]
        exact feeds_one com_tx2 (by have := DL.out; have := HK5.out; have := HK1.out; omega)
      have F1 : Feeds ys fs r er := HF.out
      rw [e] at F1
      exact (F1.one F0).2.2
    have HE := Lib.hid hz0
    have HD := Lib.hid (show decide (((dl : Nat) : Int) = 0) = !false from decide_eq_true (by omega))
    clear h0 hz0 HF HF2 HX2 HYS HZ NB7 HDT ZB ZL YL YL7 YL7b DL
    go_wp2_with (first
    | ((with_reducible refine wpList_at 68 rfl ?_); refine wpList_kn rfl (.bool true) (by exact exec_eqE rfl rfl rfl) ?_)
    | ((with_reducible refine wpList_at 71 rfl ?_); refine wpList_kn rfl (.bool false) (by exact exec_neq5 rfl rfl rfl HD.out) ?_)
    | ((with_reducible refine wpList_at 74 rfl ?_); refine wpList_kn rfl (.bool true) (by rw [HE.out]; exact exec_eqE rfl rfl rfl) ?_))
    go_ret
    exact ⟨rfl, FIN.out⟩
  · have HD := Lib.hid (show decide (((dl : Nat) : Int) = 0) = !true from decide_eq_false (by omega))
    clear h0 HF HF2 HX2 HYS HZ NB7 HDT ZB ZL YL YL7 YL7b DL
    go_wp2_with (first
    | ((with_reducible refine wpList_at 68 rfl ?_); refine wpList_kn rfl (.bool true) (by exact exec_eqE rfl rfl rfl) ?_)
    | ((with_reducible refine wpList_at 71 rfl ?_); refine wpList_kn rfl (.bool true) (by exact exec_neq5 rfl rfl rfl HD.out) ?_))
    go_ret
    exact ⟨rfl, FIN.out⟩

set_option maxRecDepth 100000 in
theorem lifted (os : Os) (started : os.Started) (H : Type) (enc : TypeId × Value → H) :
    ReturnsInHanded {} Tryd.checked os 6 .any (fun w args => (Rows.frameSumsSpec.pre enc Tryd.prog Tryd.f6 [] false w args ∧ laidMetH Tryd.prog S.frLaid w) ∧ sizedMet enc Tryd.prog Tryd.f6 (OpenSpec.ofChange Rows.frameSumsSpec) false w args)
      (Rows.frameSumsSpec.post enc Tryd.prog Tryd.f6 false true false false) := by
  refine returnsInHanded_of_change_and (C := Tryd.checked) (X := fun w _ => laidMetH Tryd.prog S.frLaid w) (fun _ _ _ hh h => h.of_heap hh) own started (by kernel_rfl) Tryd.func6
    (ChangeSpec.witness_shaped (enc := enc) (C := Tryd.checked) (os := os) (X := fun w _ => laidMetH Tryd.prog S.frLaid w) false (World.laidAll Tryd.prog os S.frLaid) #[.slice none 0 0, .int .i64 0, .int .u8 0] 8 (World.laidAll_os _ _ _)
      (World.shaped_of_ZipB (by kernel_rfl) (by kernel_rfl)) (by kernel_rfl) (by kernel_rfl) (by kernel_rfl)
      (by rw [MakeChecks.laidMetH_plain _ _ _ (by kernel_rfl)]; exact laidMet_laidAll _ (by kernel_rfl) (by kernel_rfl))) ?_
  intro W base args ds gs before hval0 hW _ hsz0 hL _
  have hval : ∀ (j : Nat) t v, Tryd.f6.params[j]? = some t → args[j]? = some v → Value.okWide Tryd.prog W .any base t v := hval0
  have hsz : (DataW.weightsEach Tryd.prog (Tryd.f6.params.toList ++ Rows.frameSumsSpec.plain.varTypes Tryd.prog) (ds ++ gs)).all (· ≤ reachBytes) = true := hsz0
  have hW' := hW
  obtain ⟨p, q, hA0, hV, rfl, hfz, hnd⟩ := hW
  have hA : DataW.TrodAll enc Tryd.prog W 0 (fun _ => true) true Tryd.f6.params.toList args.toList ds p := hA0
  rw [Tryd.params6] at hA hval hsz
  obtain ⟨v0, vs0, d0, ds0, p0, q0, hargs, rfl, rfl, h0, r0⟩ := trodAll_cons hA
  obtain ⟨v1, vs1, d1, ds1, p1, q1, rfl, rfl, rfl, h1, r1⟩ := trodAll_cons r0
  obtain ⟨v2, vs2, d2, ds2, p2, q2, rfl, rfl, rfl, h2, r2⟩ := trodAll_cons r1
  obtain ⟨rfl, rfl, rfl⟩ := trodAll_nil r2
  obtain rfl : args = #[v0, v1, v2] := by cases args; simp_all
  obtain ⟨rfl, rfl⟩ := trodVars_none hV
  have k0 := h0
  have lt0 : ∀ x ∈ p0, x.block < W.heap.size := by obtain ⟨m, hm⟩ := k0; exact DataW.trod_lt m _ _ _ hm
  obtain ⟨a0, g0, o0, n0, c0, x0, rfl, w0, m0⟩ := open_row (j := 0) (hval 0 26 v0 rfl rfl) h0 hsz rfl rfl
  obtain ⟨a1, rfl, rfl, rfl, w1⟩ := open_int Tryd.underlying3 (hval 1 3 v1 rfl rfl) h1
  obtain ⟨a2, rfl, rfl, rfl, w2⟩ := open_int Tryd.underlying5 (hval 2 5 v2 rfl rfl) h2
  clear hA0 hval0 hsz0
  simp only [List.append_nil] at hW'
  refine (walk W hL a0 g0 o0 n0 c0 x0 w0 m0 a1 w1 a2 w2).mono fun e W' ⟨he, bel⟩ => ?_
  subst he
  exact ⟨_, rfl, _, _, _, [], _, [], hW', trodAll_mk1 (shut_bool Tryd.underlying4 _), (trodAll_cons_mk (Below.trod laidOut (by kernel_rfl) (of_decide_eq_true (by kernel_rfl)) k0 bel lt0) (trodAll_cons_mk (shut_int Tryd.underlying3 w1) (trodAll_cons_mk (shut_int Tryd.underlying5 w2) trodAll_mk0))), rfl, bel.frame _, fun h => by cases h⟩

theorem over : Rows.FrameSumsSaid :=
  OpenClaim.holds_of_wide 6 Tryd.f6 rfl rfl rfl rfl rfl rfl rfl ⟨rfl, rfl, rfl, rfl, rfl⟩ rfl rfl rfl rfl rfl (by kernel_rfl) Tryd.func6 (by kernel_rfl)
    (of_decide_eq_true (by kernel_rfl)) (by unfold Func.isWrapper; first | (rw [if_pos (by decide +kernel)]; kernel_rfl) | (rw [if_neg (by decide +kernel)]; exact ⟨rfl, rfl⟩))
    (fun os started H enc _ => lifted os started H enc)

/-- The tied card. -/
theorem card_holds : Rows.FrameSumsCardSaid :=
  Claim7.holds_tied_plain_at .later [] [.data, .data, .data, .pinned] true (true, "f1b211d4871ea25ac7ccf62d4e8af954ae9a36901d175eac343dbf70e8321f11") false
    over (fun _ h => by cases h) (by kernel_rfl) (fun _ h => by cases h) frameSums_row_tie rfl ⟨rfl, rfl⟩ (by kernel_rfl) rfl
    (fun f fn hf hfn => by
      obtain rfl : f = 6 := Option.some.inj ((show Tryd.prog.funcNamed "sporran/sporranlaw09.FrameSums" = some 6 by kernel_rfl).symm.trans hf) |>.symm
      obtain rfl : fn = Tryd.f6 := (Option.some.inj (Tryd.func6.symm.trans hfn)).symm
      exact ⟨by kernel_rfl, fun j t ht => by
        rw [Tryd.params6] at ht
        have hm : t ∈ [26, 3, 5] := by simpa using Array.mem_of_getElem? ht
        have hall : ([26, 3, 5].all fun u => !Tryd.prog.wantsStandIn u) = true := by kernel_rfl
        exact (show Tryd.prog.wantsStandIn t = false by simpa using List.all_eq_true.1 hall t hm)⟩)
    (by kernel_rfl)
#print axioms card_holds
end Go.Proofs.YtkjcljobcidhfaaDoor.frameSums
