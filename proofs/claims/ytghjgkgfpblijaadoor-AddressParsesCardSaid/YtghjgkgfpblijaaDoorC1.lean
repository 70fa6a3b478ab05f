/- Slices of ints of the call's own; operations on ints' bits; the document's fives, polymod, want. -/
import Derived.Test.YtghjgkgfpblijaaDoorB5
import Derived.Test.YtghjgkgfpblijaaDoorAj
set_option linter.unusedSimpArgs false
set_option linter.unusedVariables false
set_option maxRecDepth 100000
namespace Go.Proofs.YtghjgkgfpblijaaDoor
open Go.ChangeShapes Go.WideShapes Go.RowKit Go.Lib Go.Sort

def iv (x : Nat → Nat) : Nat → Value := fun i => .int .i64 ((x i : Nat) : Int)
abbrev IOwn (B : Nat) (w : World) (p : Option Addr) (g n c : Nat) (x : Nat → Nat) : Prop := VOwn 3 1 B w p g n c (iv x)
theorem infoI3 : (Tryd.prog.info? 3).map (fun i => (i.zero, i.size, i.bytes)) = some (some (.int .i64 0), 1, 8) := by kernel_rfl
theorem IOwn.to {B : Nat} {w : World} {p : Option Addr} {g n c : Nat} {x y : Nat → Nat} (N : IOwn B w p g n c x) (h : ∀ i, i < n → x i = y i) : IOwn B w p g n c y := VOwn.to N fun i hi => by unfold iv; rw [h i (by omega)]
section
variable {ops : Array Oper} {rest : List Oper} {Q : Exit → Act → World → Prop} {op : Oper} {a : Act} {w : World}
theorem wpList_iapp (hw : Region.wanted op (yielded ops a.tmps) = true) (s t : Operand) (ho : op.op = .call { callee := .builtin .append, args := #[s, t], argTypes := #[37, 37] }) {B g n c : Nat} {p : Option Addr} {x : Nat → Nat} (hs : a.eval s = .slice p n c) (N : Hid (IOwn B w p g n c x))
    {q : Option Addr} {h o m d : Nat} {y : Nat → Nat} (ht : a.eval t = .slice q m d) (R : Hid (VRow 1 w q h o m d (iv y))) (hlen : n + m ≤ 1000000)
    (k : ∀ p' g' c' w', Hid (IOwn B w' p' g' (n + m) c' (cat x n y)) → Hid (Below B w w') → wpList Tryd.prog ops Q rest (a.put op.dst (.slice p' (n + m) c')) w') : wpList Tryd.prog ops Q (op :: rest) a w :=
  wpList_vapp 37 3 1 8 Tryd.underlying37 infoI3 rfl (by omega) hw s t ho hs N ht R (by unfold maxLen; omega) (by omega) fun p' g' c' w' N' hg => k p' g' c' w' (Lib.hid (VOwn.to N'.out fun i hi => by
    unfold vcat iv cat
    rw [Nat.mul_one]
    split <;> rfl)) (Lib.hid (VOwn.under N.out hg.out (Nat.le_refl _) N.out.low))
theorem wpList_ibs1 (hw : Region.wanted op (yielded ops a.tmps) = true) (parts : Array (Nat × Operand)) (ho : op.op = .buildSlice 37 1 parts) (y0 : Value) {v : Nat} (hp : (parts.map fun (i, y) => (i, a.eval y)) = #[(0, y0)]) (he : y0 = .int .i64 (v : Int))
    (k : ∀ p g w', Hid (IOwn w.heap.size w' p g 1 1 (fun _ => v)) → Hid (Below w.heap.size w w') → wpList Tryd.prog ops Q rest (a.put op.dst (.slice p 1 1)) w') : wpList Tryd.prog ops Q (op :: rest) a w := by
  subst he
  exact wpList_vbs 37 3 1 1 hw parts ho (iv fun _ => v) (fun i hi => rfl) (by unfold maxLen; omega) hp (fun W => run_bs1v Tryd.underlying37 infoI3 (.int .i64 (v : Int)) rfl W) rfl k
theorem wpList_ibs (hw : Region.wanted op (yielded ops a.tmps) = true) (m : Nat) (parts : Array (Nat × Operand)) (ho : op.op = .buildSlice 37 m parts) (x : Nat → Nat) (hm : m ≤ maxLen)
    (hr : ∀ w : World, (Instr.buildSlice 37 m (parts.map fun (i, y) => (i, a.eval y))).run Tryd.prog w = .ok (.slice (some ⟨w.heap.size, 0, none⟩) m m) (w.alloc (.cells (vs (iv x) (m * 1)).toArray 3)))
    (k : ∀ p g w', Hid (IOwn w.heap.size w' p g m m x) → Hid (Below w.heap.size w w') → wpList Tryd.prog ops Q rest (a.put op.dst (.slice p m m)) w') : wpList Tryd.prog ops Q (op :: rest) a w := by
  refine wpList_known4 hw _ _ ?_ (k _ _ _ (Lib.hid (vown_new w 3 1 (iv x) m hm fun i hi => rfl)) (Lib.hid (below_new w _)))
  unfold execOp
  simp only [ho, Sem.run_bind, hr w, Result.andThen_ok]
  rfl
end
theorem i64_xor_nat (a b : Nat) (ha : a < 9223372036854775808) (hb : b < 9223372036854775808) : bits .xor .i64 (a : Int) (b : Int) = ((a ^^^ b : Nat) : Int) := by
  have hx : a ^^^ b < 2 ^ 63 := Nat.xor_lt_two_pow (by omega) (by omega)
  show IntKind.i64.wrap ((BitVec.ofInt 64 (a : Int) ^^^ BitVec.ofInt 64 (b : Int)).toNat : Int) = _
  rw [BitVec.toNat_xor, ofInt_u64 a (by omega), ofInt_u64 b (by omega), IntKind.wrap_i64]
  omega
theorem i64_or_nat (a b : Nat) (ha : a < 9223372036854775808) (hb : b < 9223372036854775808) : bits .or .i64 (a : Int) (b : Int) = ((a ||| b : Nat) : Int) := by
  have hx : a ||| b < 2 ^ 63 := Nat.or_lt_two_pow (by omega) (by omega)
  show IntKind.i64.wrap ((BitVec.ofInt 64 (a : Int) ||| BitVec.ofInt 64 (b : Int)).toNat : Int) = _
  rw [BitVec.toNat_or, ofInt_u64 a (by omega), ofInt_u64 b (by omega), IntKind.wrap_i64]
  omega
theorem i64_and_nat (a b : Nat) (ha : a < 9223372036854775808) (hb : b < 9223372036854775808) : bits .and .i64 (a : Int) (b : Int) = ((a &&& b : Nat) : Int) := by
  have hx : a &&& b < 2 ^ 63 := Nat.and_lt_two_pow _ (by omega)
  show IntKind.i64.wrap ((BitVec.ofInt 64 (a : Int) &&& BitVec.ofInt 64 (b : Int)).toNat : Int) = _
  rw [BitVec.toNat_and, ofInt_u64 a (by omega), ofInt_u64 b (by omega), IntKind.wrap_i64]
  omega
section
variable {o : Oper} {ev : Operand → Value} {W : World} {x y : Operand}
theorem exec_xorIv {a b r : Nat} (ho : o.op = .binOp .xor 3 x y 3) (hx : ev x = .int .i64 (a : Int)) (hy : ev y = .int .i64 (b : Int)) (ha : a < 9223372036854775808) (hb : b < 9223372036854775808) (hr : a ^^^ b = r) : (execOp ev o).run Tryd.prog W = .ok (.value (.int .i64 (r : Int))) W := by
  subst hr
  have h := i64_xor_nat a b ha hb
  unfold execOp
  simp [ho, hx, hy, go_sem, h]
theorem exec_orIv {a b r : Nat} (ho : o.op = .binOp .or 3 x y 3) (hx : ev x = .int .i64 (a : Int)) (hy : ev y = .int .i64 (b : Int)) (ha : a < 9223372036854775808) (hb : b < 9223372036854775808) (hr : a ||| b = r) : (execOp ev o).run Tryd.prog W = .ok (.value (.int .i64 (r : Int))) W := by
  subst hr
  have h := i64_or_nat a b ha hb
  unfold execOp
  simp [ho, hx, hy, go_sem, h]
theorem exec_andIv {a b r : Nat} (ho : o.op = .binOp .and 3 x y 3) (hx : ev x = .int .i64 (a : Int)) (hy : ev y = .int .i64 (b : Int)) (ha : a < 9223372036854775808) (hb : b < 9223372036854775808) (hr : a &&& b = r) : (execOp ev o).run Tryd.prog W = .ok (.value (.int .i64 (r : Int))) W := by
  subst hr
  have h := i64_and_nat a b ha hb
  unfold execOp
  simp [ho, hx, hy, go_sem, h]
theorem exec_shlIv {n k r : Nat} (ho : o.op = .binOp .shl 3 x y 3) (hx : ev x = .int .i64 (n : Int)) (hy : ev y = .int .i64 (k : Int)) (hk : k < 64) (hr : n * 2 ^ k = r) (hl : r < 9223372036854775808) : (execOp ev o).run Tryd.prog W = .ok (.value (.int .i64 (r : Int))) W := by
  have h1 : min k 64 = k := by omega
  have h2 : IntKind.i64.wrap ((n : Int) * 2 ^ k) = (r : Int) := by
    rw [show ((n : Int) * 2 ^ k) = ((n * 2 ^ k : Nat) : Int) by simp, hr, IntKind.wrap_i64]
    omega
  unfold execOp
  simp [ho, hx, hy, go_sem, IntKind.bits, h1, h2]
theorem exec_shlIc {n k r : Nat} (ho : o.op = .binOp .shl 3 x y 32) (hx : ev x = .int .i64 (n : Int)) (hy : ev y = .int .u64 (k : Int)) (hk : k < 64) (hr : n * 2 ^ k = r) (hl : r < 9223372036854775808) : (execOp ev o).run Tryd.prog W = .ok (.value (.int .i64 (r : Int))) W := by
  have h1 : min k 64 = k := by omega
  have h2 : IntKind.i64.wrap ((n : Int) * 2 ^ k) = (r : Int) := by
    rw [show ((n : Int) * 2 ^ k) = ((n * 2 ^ k : Nat) : Int) by simp, hr, IntKind.wrap_i64]
    omega
  unfold execOp
  simp [ho, hx, hy, go_sem, IntKind.bits, h1, h2]
theorem exec_shrIv {n k r : Nat} (ho : o.op = .binOp .shr 3 x y 3) (hx : ev x = .int .i64 (n : Int)) (hy : ev y = .int .i64 (k : Int)) (hk : k < 64) (hr : n / 2 ^ k = r) : (execOp ev o).run Tryd.prog W = .ok (.value (.int .i64 (r : Int))) W := by
  subst hr
  have h1 : min k 64 = k := by omega
  unfold execOp
  simp [ho, hx, hy, go_sem, IntKind.bits, h1]
theorem exec_shrIc {n k r : Nat} (ho : o.op = .binOp .shr 3 x y 32) (hx : ev x = .int .i64 (n : Int)) (hy : ev y = .int .u64 (k : Int)) (hk : k < 64) (hr : n / 2 ^ k = r) : (execOp ev o).run Tryd.prog W = .ok (.value (.int .i64 (r : Int))) W := by
  subst hr
  have h1 : min k 64 = k := by omega
  unfold execOp
  simp [ho, hx, hy, go_sem, IntKind.bits, h1]
theorem exec_cv83 {n : Nat} (ho : o.op = .convert 5 3 x) (hx : ev x = .int .u8 (n : Int)) (hn : n < 256) : (execOp ev o).run Tryd.prog W = .ok (.value (.int .i64 (n : Int))) W := by
  have h : IntKind.i64.wrap (n : Int) = (n : Int) := by rw [IntKind.wrap_i64]; omega
  unfold execOp
  simp [ho, hx, go_sem, Tryd.underlying5, Tryd.underlying3, h]
end
theorem want_any (v : Nat) (w : World) : Calls Tryd.prog 46 #[.int .i64 (v : Int)] w fun e w' => e = .returned (.int .i64 ((endV v : Nat) : Int)) ∧ w = w' := by
  by_cases h : v = 0
  · have Y := Lib.hid (show decide (v = 0) = true by simp [h])
    have EV := Lib.hid (show endV v = 1 by unfold endV; rw [if_pos h])
    clear h
    go_enter Tryd.func46, Tryd.ntmps46
    go_wp2_with (first
      | ((with_reducible refine wpList_at 4 rfl ?_); refine wpList_known4 rfl (.bool true) _ (by exact exec_eql3v (a := v) (b := 0) (q := true) rfl rfl rfl Y.out) ?_; try simp only [Act.put, List.setIfInBounds_toArray, List.set_cons_zero, List.set_cons_succ]))
    go_ret
    exact ⟨by rw [EV.out]; rfl, rfl⟩
  · have Y := Lib.hid (show decide (v = 0) = false by simp [h])
    have EV := Lib.hid (show endV v = 734539939 by unfold endV; rw [if_neg h])
    clear h
    go_enter Tryd.func46, Tryd.ntmps46
    go_wp2_with (first
      | ((with_reducible refine wpList_at 4 rfl ?_); refine wpList_known4 rfl (.bool false) _ (by exact exec_eql3v (a := v) (b := 0) (q := false) rfl rfl rfl Y.out) ?_; try simp only [Act.put, List.setIfInBounds_toArray, List.set_cons_zero, List.set_cons_succ]))
    go_ret
    exact ⟨by rw [EV.out]; rfl, rfl⟩
/-- What a call leaves that makes a slice of ints. -/
def GetsI (w : World) (xs : List Nat) (e : Ending) (w' : World) : Prop := ∃ p g c, e = .returned (.slice p xs.length c) ∧ IOwn w.heap.size w' p g xs.length c (lf xs) ∧ Below w.heap.size w w'
theorem held_deep {V a b o : Nat} (h : b + o ≤ a) : V % 2 ^ a / 2 ^ b % 2 ^ o = V / 2 ^ b % 2 ^ o := by
  have e : a = b + (a - b) := by omega
  rw [e, Nat.pow_add, Nat.mod_mul_right_div_self]
  exact Nat.mod_mod_of_dvd _ (Nat.pow_dvd_pow 2 (by omega))
set_option maxHeartbeats 16000000 in
theorem fives_any {w : World} {p : Option Addr} {g o n cc : Nat} {x : Nat → Nat} (R : Hid (Row w p g o n cc x)) (hn : n ≤ 1000) : Calls Tryd.prog 44 #[.slice p n cc] w (GetsI w (grp 8 5 (tl x n))) := by
  go_enter Tryd.func44, Tryd.ntmps44
  go_wp2
  have N0 := Lib.hid (show IOwn w.heap.size w none 0 0 0 (gI 5 0 0) from vown_nothing w 3 1 w.heap.size _ (Nat.le_refl _))
  have B0 := Lib.hid (Below.refl w.heap.size w)
  go_loopg [3, 4, 5, 10] n (fun k s7 s8 s9 i wr => ∃ (j L c H V T c1 g1 : Nat) (p1 : Option Addr), j + k = n ∧ L ≤ 2 * j ∧ c < 5 ∧ H < 256 ∧ i = .int .i64 (j : Int) ∧ s9 = .int .i64 (c : Int) ∧ s8 = .int .i64 (H : Int) ∧ s7 = .slice p1 L c1 ∧ Hid (V = acc 256 (tl x j) ∧ T = 8 * j ∧ T = 5 * L + c ∧ H = V % 2 ^ c) ∧ Hid (IOwn w.heap.size wr p1 g1 L c1 (gI 5 V T)) ∧ Hid (Below w.heap.size w wr))
  case atStart => exact ⟨0, 0, 0, 0, 0, 0, 0, 0, none, by omega, by omega, by omega, by omega, rfl, rfl, rfl, rfl, Lib.hid ⟨rfl, rfl, rfl, rfl⟩, N0, B0⟩
  case round =>
    clear N0 B0
    obtain ⟨j, L, c, H, V, T, c1, g1, p1, hj, hL, hc, hH, rfl, rfl, rfl, rfl, D, N, BB⟩ := hrel
    obtain ⟨kk, rfl⟩ : ∃ kk : Nat, kk = gk := ⟨_, rfl⟩
    obtain ⟨wo, rfl⟩ : ∃ wo : World, wo = wr := ⟨_, rfl⟩
    by_cases hlt : j < n
    · obtain rfl := R.out.head (by omega)
      have HLT := Lib.hid hlt
      have xb := R.out.byte j
      obtain ⟨y, hy⟩ : ∃ y, y = x j := ⟨_, rfl⟩
      have CL := Lib.hid (show wo.cell? ⟨g, o + j, none⟩ = some (.int .u8 (y : Int)) by rw [hy]; exact (R.out.below BB.out).cell j hlt)
      rw [← hy] at xb
      obtain ⟨V2, hV2⟩ : ∃ V2, V2 = V * 256 + y := ⟨_, rfl⟩
      obtain ⟨T2, hT2⟩ : ∃ T2, T2 = T + 8 := ⟨_, rfl⟩
      obtain ⟨c2, hc2⟩ : ∃ c2, c2 = c + 8 := ⟨_, rfl⟩
      obtain ⟨H2, hH2⟩ : ∃ H2, H2 = H * 256 + y := ⟨_, rfl⟩
      have H2b : H2 < 65536 := by omega
      have D2 := Lib.hid (show V2 = acc 256 (tl x (j + 1)) ∧ T2 = 8 * (j + 1) ∧ T2 = 5 * L + c2 ∧ H2 = V2 % 2 ^ c2 from ⟨by rw [tl_succ, acc_snoc, ← D.out.1, ← hy, hV2], by have := D.out.2.1; omega, by have := D.out.2.2.1; omega, by
        rw [hH2, D.out.2.2.2, hV2, hc2]
        exact held_more (w := 8) xb⟩)
      have N2 := Lib.hid (IOwn.to (y := gI 5 V2 T2) N.out (fun i hi => by
        rw [hV2, hT2]
        refine (gI_more (w := 8) xb ?_).symm
        have h1 : 5 * (i + 1) ≤ 5 * L := Nat.mul_le_mul_left 5 hi
        have := D.out.2.2.1
        omega))
      have X1 := Lib.hid (show H * 2 ^ 8 = H * 256 ∧ H * 256 < 9223372036854775808 from ⟨rfl, by omega⟩)
      have X2 := Lib.hid (show H * 256 ||| y = H2 by rw [hH2]; exact or_low (w := 8) xb)
      have X3 := Lib.hid (show H * 256 < 9223372036854775808 ∧ y < 9223372036854775808 ∧ y < 256 by omega)
      have X4 := Lib.hid (show c + 8 = c2 ∧ c2 < 9223372036854775808 by omega)
      have hc2b : c2 ≤ 12 := by omega
      have hc2e : c2 = c + 8 := hc2
      have C2E := Lib.hid hc2e
      clear hy hV2 hT2 hH2 hc2 D N xb hH hc2e
      go_wp2_with (first
        | ((with_reducible refine wpList_at 12 rfl ?_); refine wpList_ix (k := 1) (j := j) Tryd.underlying22 (by kernel_rfl) (.tmp 8) (.tmp 10) rfl rfl rfl rfl HLT.out rfl ?_; rw [Nat.mul_one]; try simp only [Act.put, List.setIfInBounds_toArray, List.set_cons_zero, List.set_cons_succ])
        | ((with_reducible refine wpList_at 13 rfl ?_); refine wpList_ld1 5 (.tmp 12) rfl rfl rfl Tryd.underlying5 rfl CL.out ?_; try simp only [Act.put, List.setIfInBounds_toArray, List.set_cons_zero, List.set_cons_succ])
        | ((with_reducible refine wpList_at 15 rfl ?_); refine wpList_known4 rfl (.int .i64 ((H * 256 : Nat) : Int)) _ (by exact exec_shlIc (n := H) (k := 8) (r := H * 256) rfl rfl rfl (by decide) X1.out.1 X1.out.2) ?_; try simp only [Act.put, List.setIfInBounds_toArray, List.set_cons_zero, List.set_cons_succ])
        | ((with_reducible refine wpList_at 17 rfl ?_); refine wpList_known4 rfl (.int .i64 (y : Int)) _ (by exact exec_cv83 (n := y) rfl rfl X3.out.2.2) ?_; try simp only [Act.put, List.setIfInBounds_toArray, List.set_cons_zero, List.set_cons_succ])
        | ((with_reducible refine wpList_at 18 rfl ?_); refine wpList_known4 rfl (.int .i64 (H2 : Int)) _ (by exact exec_orIv (a := H * 256) (b := y) (r := H2) rfl rfl rfl X3.out.1 X3.out.2.1 X2.out) ?_; try simp only [Act.put, List.setIfInBounds_toArray, List.set_cons_zero, List.set_cons_succ])
        | ((with_reducible refine wpList_at 20 rfl ?_); refine wpList_known4 rfl (.int .i64 (c2 : Int)) _ (by exact exec_add3v (a := c) (b := 8) (r := c2) rfl rfl rfl X4.out.1 X4.out.2) ?_; try simp only [Act.put, List.setIfInBounds_toArray, List.set_cons_zero, List.set_cons_succ]))
      clear CL X1 X2 X3 X4
      go_loopg [3, 5] c2 (fun k s7 s9 wr => ∃ (L c c1 g1 : Nat) (p1 : Option Addr), c ≤ k ∧ c ≤ c2 ∧ L ≤ 2 * j + 4 ∧ s9 = .int .i64 (c : Int) ∧ s7 = .slice p1 L c1 ∧ Hid (T2 = 5 * L + c) ∧ Hid (IOwn w.heap.size wr p1 g1 L c1 (gI 5 V2 T2)) ∧ Hid (Below w.heap.size w wr))
      case atStart => exact ⟨L, c2, c1, g1, p1, Nat.le_refl _, Nat.le_refl _, by omega, rfl, rfl, Lib.hid D2.out.2.2.1, N2, BB⟩
      case round =>
        clear N2 BB
        obtain ⟨L, c, c1, g1, p1, hck, hcb, hL2, rfl, rfl, E, N, BB⟩ := hrel
        obtain ⟨k2, rfl⟩ : ∃ kk : Nat, kk = gk := ⟨_, rfl⟩
        by_cases hq : 5 ≤ c
        · obtain ⟨c3, hc3⟩ : ∃ c3, c3 = c - 5 := ⟨_, rfl⟩
          obtain ⟨v, hv⟩ : ∃ v, v = gI 5 V2 T2 L := ⟨_, rfl⟩
          have vb : v < 32 := by rw [hv]; exact gI_lt _ _ _ _
          obtain ⟨u, hu⟩ : ∃ u, u = H2 / 2 ^ c3 := ⟨_, rfl⟩
          have hLn : L ≤ 2 * n + 4 := by omega
          have ub : u < 65536 := by rw [hu]; exact Nat.lt_of_le_of_lt (Nat.div_le_self _ _) H2b
          have huv : u % 32 = v := by
            rw [hu, hv, D2.out.2.2.2]
            unfold gI
            rw [show T2 - 5 * (L + 1) = c3 by have := E.out; omega]
            exact held_deep (o := 5) (by omega)
          have Y1 := Lib.hid (show 5 ≤ c ∧ c < 9223372036854775808 ∧ c - 5 = c3 by omega)
          have Y2 := Lib.hid (show c3 < 64 ∧ H2 / 2 ^ c3 = u from ⟨by omega, hu.symm⟩)
          have Y3 := Lib.hid (show u < 9223372036854775808 ∧ u &&& 31 = v from ⟨by omega, by have := Nat.and_two_pow_sub_one_eq_mod u 5; rw [show (2 : Nat) ^ 5 - 1 = 31 by decide] at this; rw [this]; exact huv⟩)
          have E3 := Lib.hid (show T2 = 5 * (L + 1) + c3 by have := E.out; omega)
          have HV := Lib.hid hv
          clear hu hv ub huv E
          go_wp2_with (first
            | ((with_reducible refine wpList_at 24 rfl ?_); refine wpList_known4 rfl (.int .i64 (c3 : Int)) _ (by exact exec_sub3v (a := c) (b := 5) (r := c3) rfl rfl rfl Y1.out.1 Y1.out.2.1 Y1.out.2.2) ?_; try simp only [Act.put, List.setIfInBounds_toArray, List.set_cons_zero, List.set_cons_succ])
            | ((with_reducible refine wpList_at 28 rfl ?_); refine wpList_known4 rfl (.int .i64 (u : Int)) _ (by exact exec_shrIv (n := H2) (k := c3) (r := u) rfl rfl rfl Y2.out.1 Y2.out.2) ?_; try simp only [Act.put, List.setIfInBounds_toArray, List.set_cons_zero, List.set_cons_succ])
            | ((with_reducible refine wpList_at 29 rfl ?_); refine wpList_known4 rfl (.int .i64 (v : Int)) _ (by exact exec_andIv (a := u) (b := 31) (r := v) rfl rfl rfl Y3.out.1 (by decide) Y3.out.2) ?_; try simp only [Act.put, List.setIfInBounds_toArray, List.set_cons_zero, List.set_cons_succ])
            | ((with_reducible refine wpList_at 30 rfl ?_); refine wpList_ibs1 rfl _ rfl (.int .i64 (v : Int)) (v := v) (by kernel_rfl) rfl ?_; intro p7 g7 w7 N7 hb7; have R7 := Lib.hid N7.out.row; replace N := Lib.hid (VOwn.below N.out hb7.out); replace BB := Lib.hid (BB.out.trans (hb7.out.mono BB.out.size)); clear hb7 N7; try simp only [Act.put, List.setIfInBounds_toArray, List.set_cons_zero, List.set_cons_succ])
            | ((with_reducible refine wpList_at 31 rfl ?_); refine wpList_iapp rfl (.tmp 25) (.tmp 30) rfl rfl N rfl R7 (by omega) ?_; clear N R7; intro p8 g8 c8 w8 N hb8; replace BB := Lib.hid (BB.out.trans hb8.out); clear hb8; try simp only [Act.put, List.setIfInBounds_toArray, List.set_cons_zero, List.set_cons_succ]))
          have N2 := Lib.hid (IOwn.to (y := gI 5 V2 T2) N.out (fun i hi => by
            unfold cat
            by_cases h : i < L
            · rw [if_pos h]
            · rw [if_neg h, show i = L by omega]; exact HV.out))
          clear N HV Y1 Y2 Y3
          go_roundg (c - 5)
          case measure => omega
          case rel => exact ⟨L + 1, c3, c8, g8, p8, by omega, by omega, by have := E3.out; have := D2.out.2.1; omega, rfl, by go_num, E3, N2, BB⟩
        · obtain ⟨P, hP⟩ : ∃ P, P = 2 ^ c := ⟨_, rfl⟩
          obtain ⟨H3, hH3⟩ : ∃ H3, H3 = V2 % 2 ^ c := ⟨_, rfl⟩
          have p3 : 2 ^ c ≤ 32 := Nat.le_trans (pow_le8 (o := 5) (by omega)) (by decide)
          have p4 : 0 < 2 ^ c := Nat.pow_pos (by omega)
          have H3b : H3 < 256 := by rw [hH3]; have := held_lt V2 c; omega
          have Y4 := Lib.hid (show 1 * 2 ^ c = P ∧ P < 9223372036854775808 ∧ c < 64 ∧ 1 ≤ P by rw [hP]; omega)
          have Y6 := Lib.hid (show H2 &&& (P - 1) = H3 by
            rw [hP, Nat.and_two_pow_sub_one_eq_mod, hH3, D2.out.2.2.2]
            exact Nat.mod_mod_of_dvd _ (Nat.pow_dvd_pow 2 hcb))
          have Y7 := Lib.hid (show H2 < 9223372036854775808 ∧ P - 1 < 9223372036854775808 by have := Y4.out; omega)
          have D3 := Lib.hid (show V2 = acc 256 (tl x (j + 1)) ∧ T2 = 8 * (j + 1) ∧ T2 = 5 * L + c ∧ H3 = V2 % 2 ^ c from ⟨D2.out.1, D2.out.2.1, E.out, hH3⟩)
          clear E D2 hP hH3 p3 p4
          go_wp2_with (first
            | ((with_reducible refine wpList_at 34 rfl ?_); refine wpList_known4 rfl (.int .i64 (P : Int)) _ (by exact exec_shlIv (n := 1) (k := c) (r := P) rfl rfl rfl Y4.out.2.2.1 Y4.out.1 Y4.out.2.1) ?_; try simp only [Act.put, List.setIfInBounds_toArray, List.set_cons_zero, List.set_cons_succ])
            | ((with_reducible refine wpList_at 35 rfl ?_); refine wpList_known4 rfl (.int .i64 ((P - 1 : Nat) : Int)) _ (by exact exec_sub3v (a := P) (b := 1) (r := P - 1) rfl rfl rfl Y4.out.2.2.2 Y4.out.2.1 rfl) ?_; try simp only [Act.put, List.setIfInBounds_toArray, List.set_cons_zero, List.set_cons_succ])
            | ((with_reducible refine wpList_at 36 rfl ?_); refine wpList_known4 rfl (.int .i64 (H3 : Int)) _ (by exact exec_andIv (a := H2) (b := P - 1) (r := H3) rfl rfl rfl Y7.out.1 Y7.out.2 Y6.out) ?_; try simp only [Act.put, List.setIfInBounds_toArray, List.set_cons_zero, List.set_cons_succ]))
          go_roundg (n - (j + 1))
          case measure => omega
          case rel => exact ⟨j + 1, L, c, H3, V2, T2, c1, g1, p1, by omega, by have := D3.out.2.1; have := D3.out.2.2.1; omega, by omega, H3b, by go_num, rfl, rfl, rfl, D3, N, BB⟩
    · obtain rfl : j = n := by omega
      have hg : grp 8 5 (tl x j) = tl (gI 5 V T) L ++ if 0 < c then [V % 2 ^ c * 2 ^ (5 - c)] else [] := by
        have h1 : T / 5 = L ∧ T % 5 = c := by have := D.out.2.2.1; omega
        unfold grp grpX
        rw [tl_length, show 8 * j = T from D.out.2.1.symm, h1.1, h1.2]
        rw [show acc (2 ^ 8) (tl x j) = V from D.out.1.symm]
      by_cases hc0 : 0 < c
      · rw [if_pos hc0, ← D.out.2.2.2] at hg
        obtain ⟨z, hz⟩ : ∃ z, z = H * 2 ^ (5 - c) := ⟨_, rfl⟩
        rw [← hz] at hg
        have zb : z < 32 := by
          have h1 : H < 2 ^ c := by rw [D.out.2.2.2]; exact held_lt _ _
          have h2 : H * 2 ^ (5 - c) < 2 ^ c * 2 ^ (5 - c) := Nat.mul_lt_mul_of_pos_right h1 (Nat.pow_pos (by omega))
          rw [← Nat.pow_add, show c + (5 - c) = 5 by omega] at h2
          rw [hz]; exact h2
        obtain ⟨d, hd⟩ : ∃ d, d = 5 - c := ⟨_, rfl⟩
        have Y1 := Lib.hid (show c ≤ 5 ∧ 5 < 9223372036854775808 ∧ 5 - c = d by omega)
        have Y2 := Lib.hid (show d < 64 ∧ H * 2 ^ d = z ∧ z < 9223372036854775808 from ⟨by omega, by rw [hd, ← hz], by omega⟩)
        have Y3 := Lib.hid (show z &&& 31 = z by have := Nat.and_two_pow_sub_one_eq_mod z 5; rw [show (2 : Nat) ^ 5 - 1 = 31 by decide] at this; rw [this]; show z % 32 = z; omega)
        have HG := Lib.hid hg
        clear D hz hd hg
        go_wp2_with (first
          | ((with_reducible refine wpList_at 43 rfl ?_); refine wpList_known4 rfl (.int .i64 (d : Int)) _ (by exact exec_sub3v (a := 5) (b := c) (r := d) rfl rfl rfl Y1.out.1 Y1.out.2.1 Y1.out.2.2) ?_; try simp only [Act.put, List.setIfInBounds_toArray, List.set_cons_zero, List.set_cons_succ])
          | ((with_reducible refine wpList_at 44 rfl ?_); refine wpList_known4 rfl (.int .i64 (z : Int)) _ (by exact exec_shlIv (n := H) (k := d) (r := z) rfl rfl rfl Y2.out.1 Y2.out.2.1 Y2.out.2.2) ?_; try simp only [Act.put, List.setIfInBounds_toArray, List.set_cons_zero, List.set_cons_succ])
          | ((with_reducible refine wpList_at 45 rfl ?_); refine wpList_known4 rfl (.int .i64 (z : Int)) _ (by exact exec_andIv (a := z) (b := 31) (r := z) rfl rfl rfl Y2.out.2.2 (by decide) Y3.out) ?_; try simp only [Act.put, List.setIfInBounds_toArray, List.set_cons_zero, List.set_cons_succ])
          | ((with_reducible refine wpList_at 46 rfl ?_); refine wpList_ibs1 rfl _ rfl (.int .i64 (z : Int)) (v := z) (by kernel_rfl) rfl ?_; intro p7 g7 w7 N7 hb7; have R7 := Lib.hid N7.out.row; replace N := Lib.hid (VOwn.below N.out hb7.out); replace BB := Lib.hid (BB.out.trans (hb7.out.mono BB.out.size)); clear hb7 N7; try simp only [Act.put, List.setIfInBounds_toArray, List.set_cons_zero, List.set_cons_succ])
          | ((with_reducible refine wpList_at 47 rfl ?_); refine wpList_iapp rfl (.tmp 40) (.tmp 46) rfl rfl N rfl R7 (by omega) ?_; clear N R7; intro p8 g8 c8 w8 N hb8; replace BB := Lib.hid (BB.out.trans hb8.out); clear hb8; try simp only [Act.put, List.setIfInBounds_toArray, List.set_cons_zero, List.set_cons_succ]))
        go_ret
        have hl : (tl (gI 5 V T) L ++ [z]).length = L + 1 := by simp [tl_length]
        refine ⟨p8, g8, c8, by rw [HG.out, hl]; rfl, ?_, BB.out⟩
        rw [HG.out, hl]
        refine IOwn.to N.out (fun i hi => ?_)
        rw [lf_snoc _ _ _ hi]
        rfl
      · rw [if_neg hc0, List.append_nil] at hg
        have HG := Lib.hid hg
        clear D hg
        go_wp2
        go_ret
        refine ⟨p1, g1, c1, by rw [HG.out, tl_length]; rfl, ?_, BB.out⟩
        rw [HG.out, tl_length]
        exact IOwn.to N.out (fun i hi => (lf_tl _ hi).symm)
end Go.Proofs.YtghjgkgfpblijaaDoor
