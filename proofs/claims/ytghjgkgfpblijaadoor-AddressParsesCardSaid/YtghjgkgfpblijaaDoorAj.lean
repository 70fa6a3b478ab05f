/- The document's Base58. -/
import Derived.Test.YtghjgkgfpblijaaDoorZC
set_option linter.unusedSimpArgs false
set_option linter.unusedVariables false
set_option maxRecDepth 100000
namespace Go.Proofs.YtghjgkgfpblijaaDoor
open Go.ChangeShapes Go.WideShapes Go.RowKit Go.Lib Go.Sort

section
variable {ops : Array Oper} {rest : List Oper} {Q : Exit → Act → World → Prop} {op : Oper} {a : Act} {w : World}
/-- No bytes, written out. -/
theorem wpList_bs00 (hw : Region.wanted op (yielded ops a.tmps) = true) (ho : op.op = .buildSlice 22 0 #[])
    (k : ∀ g w', Hid (Own w.heap.size w' (some ⟨g, 0, none⟩) g 0 0 (fun _ => 0)) → Hid (Below w.heap.size w w') → wpList Tryd.prog ops Q rest (a.put op.dst (.slice (some ⟨g, 0, none⟩) 0 0)) w') : wpList Tryd.prog ops Q (op :: rest) a w :=
  BigFrame.wpList_want hw fun _ hK => by
    refine mo_known (.slice (some ⟨w.heap.size, 0, none⟩) 0 0) (w.alloc (.cells #[] 5)) ?_ (hK _ _ (k _ _ (Lib.hid (own_new w (fun _ => 0) 0 (by unfold maxLen; omega) (fun _ => by omega))) (Lib.hid (below_new w _))))
    unfold execOp
    simp only [ho, Array.map_empty, Sem.run_bind, run_bs0 Tryd.underlying22 infoB w, Result.andThen_ok]
    rfl
end
/-- Places of which the first k are noughts. -/
theorem reb_ones2 {b c : Nat} {F G : Nat → Nat} {n m k : Nat} (h1 : m + k = n) (h2 : ∀ i, i < m → G i = F (k + i)) (h3 : ∀ i, i < k → F i = 0) (h4 : m = 0 ∨ G 0 ≠ 0) :
    reb b c (tl F n) = List.replicate k 0 ++ (dig c (acc b (tl G m))).reverse := by
  have e1 : lz (tl F n) = k := by
    refine lz_is (by omega) h3 ?_
    rcases h4 with h | h
    · exact .inl (by omega)
    · rcases Nat.eq_zero_or_pos m with q | q
      · exact .inl (by omega)
      · exact .inr fun e => h (by rw [h2 0 q]; exact e)
  have e3 : tl (fun i => F (k + i)) m = tl G m := by
    apply lf_inj (by rw [tl_length, tl_length])
    intro i hi
    rw [tl_length] at hi
    rw [lf_tl _ hi, lf_tl _ hi, h2 i hi]
  have e2 : tl F n = List.replicate k 0 ++ tl G m := by
    rw [← h1, Nat.add_comm, tl_add, tl_zeros h3, e3]
  unfold reb
  rw [e1, e2, acc_zeros]
/-- Digits with no nought ahead are those of the number that they say. -/
theorem dig_acc {b : Nat} (hb : 2 ≤ b) {l : List Nat} (h : ∀ x, x ∈ l → x < b) (h0 : ∀ hl : l ≠ [], l.head hl ≠ 0) : (dig b (acc b l)).reverse = l := by
  rw [acc_val, dig_val hb _ (fun x hx => h x (List.mem_reverse.1 hx)) (fun hl => by rw [List.getLast_reverse]; exact h0 _), List.reverse_reverse]
theorem acc_rdig {b : Nat} (hb : 2 ≤ b) (n : Nat) : acc b (dig b n).reverse = n := by rw [acc_val, List.reverse_reverse, val_dig hb]
theorem byt_zero : byt D58 0 = 49 := by decide +kernel
theorem cut_dg {r : Nat} (h : r < 58) : D58.extract r (r + 1) = dgS [r] := by
  have k : ∀ i : Fin 58, D58.extract i.1 (i.1 + 1) = dgS [i.1] := by decide +kernel
  exact k ⟨r, h⟩
theorem dgS_cat (a b : List Nat) : dgS (a ++ b) = dgS a ++ dgS b := by
  refine ba_ext (by rw [ByteArray.size_append, dgS_size, dgS_size, dgS_size, List.length_append]) fun i hi => ?_
  rw [dgS_size, List.length_append] at hi
  rw [dgS_byt (by rw [List.length_append]; exact hi), ← lf_cat]
  unfold cat
  by_cases h : i < a.length
  · rw [if_pos h, byt_catl (by rw [dgS_size]; exact h), dgS_byt h]
  · rw [if_neg h, byt_catr (by rw [dgS_size]; omega) (by rw [dgS_size, dgS_size]; exact hi), dgS_size, dgS_byt (by omega)]
theorem ones_dg {u : ByteArray} {k : Nat} (h1 : u.size = k) (h2 : ∀ i, i < k → byt u i = 49) : u = dgS (List.replicate k 0) := by
  refine ba_ext (by rw [dgS_size, List.length_replicate, h1]) fun i hi => ?_
  rw [h1] at hi
  rw [h2 i hi, dgS_byt (by rw [List.length_replicate]; exact hi), lf_get (by rw [List.length_replicate]; exact hi), List.getElem_replicate, byt_zero]
theorem exec_cutS {o : Oper} {ev : Operand → Value} {W : World} {x y : Operand} {r : Nat} {S : ByteArray} (ho : o.op = .slice 9 (.const (.string D58)) (some x) (some y) none) (hc : ev (.const (.string D58)) = .string D58) (hx : ev x = .int .i64 (r : Int)) (hy : ev y = .int .i64 ((r : Int) + 1)) (hr : r < 58) (hS : S = dgS [r]) : (execOp ev o).run Tryd.prog W = .ok (.value (.string S)) W := by
  have hl : (Instr.slice 9 (.string D58) (some (.int .i64 (r : Int))) (some (.int .i64 ((r : Int) + 1))) none).run Tryd.prog W = .ok (.string (D58.extract r (r + 1))) W := by
    have e : ((r : Int) + 1).toNat = r + 1 := by omega
    simp [Instr.slice, run_underlying Tryd.underlying9, Instr.sliceBounds, run_sliceBound, sliced, D58_size, e, (by omega : (0 : Int) ≤ r), (by omega : (0 : Int) ≤ (r : Int) + 1), (by omega : (r : Int) + 1 ≤ 58), (by omega : (r : Int) ≤ (r : Int) + 1), (by omega : r + 1 ≤ 58)]
  rw [cut_dg hr, ← hS] at hl
  unfold execOp
  simp only [ho, Option.map_some, Option.map_none, hx, hy, hc, Sem.run_bind, run_sliceAt_string (w := W) 9 _ _ _ _ Tryd.underlying9, hl, Result.andThen_ok]
  rfl
theorem cat_one {u : ByteArray} {k : Nat} (h : u.size = k ∧ ∀ i, i < k → byt u i = 49) : (u ++ ⟨#[49]⟩ : ByteArray).size = k + 1 ∧ ∀ i, i < k + 1 → byt (u ++ ⟨#[49]⟩) i = 49 := by
  have e : (⟨#[49]⟩ : ByteArray).size = 1 := rfl
  refine ⟨by rw [ByteArray.size_append, h.1, e], fun i hi => ?_⟩
  rcases Nat.lt_or_ge i k with q | q
  · rw [byt_catl (by rw [h.1]; exact q), h.2 i q]
  · rw [byt_catr (by rw [h.1]; exact q) (by rw [h.1, e]; exact hi), h.1, show i - k = 0 by omega]; rfl
/-- A step of the long division. -/
theorem long_step {A B r d : Nat} (hA : A = 58 * B + r) (hr : r < 58) (hd : d < 256) : A * 256 + d = 58 * (256 * B + (256 * r + d) / 58) + (256 * r + d) % 58 ∧ (256 * r + d) / 58 < 256 := by omega
theorem long_dig {B x : Nat} (hx : x < 256) (h : 0 < B ∨ 0 < x) : (dig 256 (256 * B + x)).reverse = (dig 256 B).reverse ++ [x] := by
  rw [dig_pos (by omega) (by omega), show (256 * B + x) % 256 = x by omega, show (256 * B + x) / 256 = B by omega, List.reverse_cons]
theorem acc_next {l : List Nat} {j d : Nat} (h : j < l.length) (hd : d = lf l j) : acc 256 (tl (lf l) (j + 1)) = acc 256 (tl (lf l) j) * 256 + d := by
  rw [tl_succ, acc_snoc, ← hd]
theorem exec_pos {o : Oper} {ev : Operand → Value} {W : World} {x y : Operand} {v : Nat} (ho : o.op = .binOp .gtr 3 x y 3) (hx : ev x = .int .i64 (v : Int)) (hy : ev y = .int .i64 0) (h : 0 < v) : (execOp ev o).run Tryd.prog W = .ok (.value (.bool true)) W := by
  unfold execOp
  simp [ho, hx, hy, go_sem, h]
theorem conv_byte {v : Nat} (h : v < 256) (W : World) : (convert 3 5 (.int .i64 (v : Int))).run Tryd.prog W = .ok (.int .u8 (v : Int)) W := by
  have hk : Tryd.prog.intKind 5 = .u8 := by kernel_rfl
  rw [run_convert_int W 3 5 .i64 (v : Int) (by kernel_rfl) (by rw [hk]; exact Tryd.underlying5), hk]
  have e : IntKind.u8.wrap (v : Int) = (v : Int) := by simp [IntKind.wrap, IntKind.signed, IntKind.bits]; omega
  rw [e]
set_option maxHeartbeats 32000000 in
theorem rb58_any {w : World} {p : Option Addr} {g o n c : Nat} {x : Nat → Nat} (R : Hid (Row w p g o n c x)) (hn : n ≤ 140737488355328) : Calls Tryd.prog 22 #[.slice p n c] w fun e w' => e = .returned (.string (b58 (tl x n))) ∧ Below w.heap.size w w' := by
  by_cases h2 : 200 < n
  · have BS := Lib.hid (show b58 (tl x n) = ⟨#[]⟩ by unfold b58; rw [tl_length, if_pos h2])
    go_enter Tryd.func22, Tryd.ntmps22
    go_wp2
    go_ret
    exact ⟨by rw [BS.out]; rfl, Below.refl _ _⟩
  · have hn2 : n ≤ 200 := by omega
    clear h2
    obtain ⟨RES, hRES⟩ : ∃ RES, RES = b58 (tl x n) := ⟨_, rfl⟩
    rw [← hRES]
    have RS := Lib.hid (show ∀ (k m : Nat) (u : ByteArray), m + k = n → (u.size = k ∧ ∀ i, i < k → byt u i = 49) → (∀ i, i < k → x i = 0) → (m = 0 ∨ x k ≠ 0) → u ++ dgS (dig 58 (acc 256 (tl (fun i => x (k + i)) m))).reverse = RES from fun k m u h1 h2 h3 h4 => by
      rw [hRES, show b58 (tl x n) = dgS (reb 256 58 (tl x n)) by unfold b58; rw [tl_length, if_neg (by omega)], reb_ones2 (G := fun i => x (k + i)) h1 (fun i _ => rfl) h3 h4, dgS_cat, ← ones_dg h2.1 h2.2])
    have hx := Lib.hid (show ∀ i, x i < 256 from fun i => R.out.byte i)
    clear hRES
    have B0 := Lib.hid (Below.refl w.heap.size w)
    go_enter Tryd.func22, Tryd.ntmps22
    go_upto_region 5 with (first
      | ((with_reducible refine wpList_at 14 rfl ?_); refine wpList_bs00 rfl rfl ?_; intro g3 w3 N3 hb3; replace R := Lib.hid (R.out.below hb3.out); have l3 := Lib.hid B0.out.size; replace B0 := Lib.hid (B0.out.trans (hb3.out.mono B0.out.size)); clear hb3; try simp only [Act.put, List.setIfInBounds_toArray, List.set_cons_zero, List.set_cons_succ])
      | ((with_reducible refine wpList_at 16 rfl ?_); refine wpList_app (.inl rfl) (.tmp 14) (.tmp 15) rfl rfl (Lib.hid (N3.out.mono l3.out)) rfl R (by omega) ?_; clear N3; intro p4 g4 c4 w4 N4 hb4; replace B0 := Lib.hid (B0.out.trans hb4.out); clear hb4; try simp only [Act.put, List.setIfInBounds_toArray, List.set_cons_zero, List.set_cons_succ]))
    have e0 : 0 + n = n := by omega
    rw [e0] at N4
    try rw [e0]
    clear e0
    obtain ⟨w1, rfl⟩ : ∃ w1 : World, w1 = w4 := ⟨_, rfl⟩
    have R4 := Lib.hid (N4.out.row.to (y := fun i => x (0 + i)) (fun i _ => by unfold cat; rw [if_neg (by omega), Nat.sub_zero, Nat.zero_add]) (fun i => hx.out _))
    have U0 := Lib.hid (show (⟨#[]⟩ : ByteArray).size = 0 ∧ ∀ i, i < 0 → byt ⟨#[]⟩ i = 49 from ⟨rfl, fun i h => absurd h (by omega)⟩)
    have Z0 := Lib.hid (show ∀ i, i < 0 → x i = 0 from fun i h => absurd h (by omega))
    have W1 := Lib.hid (show w.heap.size ≤ w1.heap.size from B0.out.size)
    clear N4 R
    go_loopg [3, 4] n (fun m s3 s4 wr => ∃ (k c g o : Nat) (p : Option Addr) (u : ByteArray), m + k = n ∧ s3 = .string u ∧ s4 = .slice p m c ∧ Hid (u.size = k ∧ ∀ i, i < k → byt u i = 49) ∧ Hid (∀ i, i < k → x i = 0) ∧ Hid (Row w1 p g o m c (fun i => x (k + i))) ∧ wr = w1)
    case atStart => exact ⟨0, c4, g4, 0, p4, ⟨#[]⟩, by omega, rfl, rfl, U0, Z0, R4, rfl⟩
    case round =>
      clear U0 Z0 R4
      obtain ⟨k, c, g, o, p, u, hk, rfl, rfl, UU, ZZ, R, rfl⟩ := hrel
      obtain ⟨m, rfl⟩ : ∃ m : Nat, m = gk := ⟨_, rfl⟩
      by_cases hm : 0 < m
      · have h0i : (0 : Int) < (m : Int) := by omega
        obtain rfl := R.out.head hm
        obtain ⟨y, hy⟩ : ∃ y, y = x k := ⟨_, rfl⟩
        have CL := Lib.hid (show wr.cell? ⟨g, o, none⟩ = some (.int .u8 (y : Int)) by have := R.out.cell 0 hm; rwa [Nat.add_zero, Nat.add_zero, ← hy] at this)
        have HM := Lib.hid hm
        by_cases hz : y = 0
        · subst hz
          obtain ⟨p2, hp2, R2⟩ := R.out.slice (l := 1) (h := m) (m := c) (by omega) (by omega) R.out.le (Nat.le_refl _)
          have SL := Lib.hid (fun w : World => run_sl (w := w) (p := some ⟨g, o, none⟩) (bounds_l (w := w) (n := m) (c := c) (l := 1) (by omega)))
          rw [hp2] at SL
          have R3 := Lib.hid (show Row wr p2 g (o + 1) (m - 1) (c - 1) (fun i => x (k + 1 + i)) from R2.to (fun i _ => by show x (k + (1 + i)) = _; rw [Nat.add_assoc]) (fun i => hx.out _))
          have U1 := Lib.hid (cat_one UU.out)
          have us : u.size ≤ 200 := by have := UU.out.1; omega
          have Z1 := Lib.hid (show ∀ i, i < k + 1 → x i = 0 from fun i hi => by
            rcases Nat.lt_or_ge i k with q | q
            · exact ZZ.out i q
            · obtain rfl : i = k := by omega
              exact hy.symm)
          clear hy R R2 hp2 UU ZZ
          go_wp2_with (first
            | ((with_reducible refine wpList_at 22 rfl ?_); refine wpList_ix (k := 1) (j := 0) Tryd.underlying22 (by kernel_rfl) (.tmp 21) _ rfl rfl rfl rfl HM.out rfl ?_; rw [Nat.zero_mul, Nat.add_zero]; try simp only [Act.put, List.setIfInBounds_toArray, List.set_cons_zero, List.set_cons_succ])
            | ((with_reducible refine wpList_at 23 rfl ?_); refine wpList_ld1 5 (.tmp 22) rfl rfl rfl Tryd.underlying5 rfl CL.out ?_; try simp only [Act.put, List.setIfInBounds_toArray, List.set_cons_zero, List.set_cons_succ])
            | ((with_reducible refine wpList_at 27 rfl ?_); refine wpList_known4 rfl (.string (u ++ ⟨#[49]⟩)) _ (exec_cat rfl rfl rfl (by have : (⟨#[49]⟩ : ByteArray).size = 1 := rfl; omega)) ?_; try simp only [Act.put, List.setIfInBounds_toArray, List.set_cons_zero, List.set_cons_succ])
            | ((with_reducible refine wpList_at 29 rfl ?_); refine wpList_known4 rfl (.slice p2 (m - 1) (c - 1)) _ (exec_sl rfl (SL.out _)) ?_; try simp only [Act.put, List.setIfInBounds_toArray, List.set_cons_zero, List.set_cons_succ]))
          go_roundg (m - 1)
          case measure => omega
          case rel => exact ⟨k + 1, c - 1, g, o + 1, p2, _, by omega, rfl, rfl, U1, Z1, R3, rfl⟩
        · have EX := Lib.hid (show m = 0 ∨ x k ≠ 0 from .inr (by rw [← hy]; exact hz))
          have b1 : ((y : Int) == 0) = false := by simpa using (show ¬ ((y : Int) = 0) by omega)
          clear hz
          go_upto_region 9 with (first
            | ((with_reducible refine wpList_at 22 rfl ?_); refine wpList_ix (k := 1) (j := 0) Tryd.underlying22 (by kernel_rfl) (.tmp 21) _ rfl rfl rfl rfl HM.out rfl ?_; rw [Nat.zero_mul, Nat.add_zero]; try simp only [Act.put, List.setIfInBounds_toArray, List.set_cons_zero, List.set_cons_succ])
            | ((with_reducible refine wpList_at 23 rfl ?_); refine wpList_ld1 5 (.tmp 22) rfl rfl rfl Tryd.underlying5 rfl CL.out ?_; try simp only [Act.put, List.setIfInBounds_toArray, List.set_cons_zero, List.set_cons_succ]))
          clear hy b1 CL h0i hm HM
          obtain ⟨V0, hV0⟩ : ∃ V0, V0 = acc 256 (tl (fun i => x (k + i)) m) := ⟨_, rfl⟩
          have RS2 := Lib.hid (RS.out k m u hk UU.out ZZ.out EX.out)
          rw [← hV0] at RS2
          have us : u.size ≤ 200 := by have := UU.out.1; omega
          have TL := Lib.hid (show (dig 58 V0).length ≤ 8 * m by
            rw [hV0]
            have := dig_bound (b := 256) (c := 58) (by omega) (by omega) (by decide) (tl_mem (x := fun i => x (k + i)) (n := m) fun i _ => hx.out _)
            rwa [tl_length] at this)
          have D0 := Lib.hid (show m = (tl (fun i => x (k + i)) m).length ∧ tl (fun i => x (k + i)) m = (dig 256 V0).reverse from ⟨(tl_length _ _).symm, by
            rw [hV0]
            refine (dig_acc (by omega) (tl_mem fun i _ => hx.out _) fun hl => ?_).symm
            have hlen : 0 < (tl (fun i => x (k + i)) m).length := List.length_pos_iff.2 hl
            have h1 := lf_get (l := tl (fun i => x (k + i)) m) hlen
            rw [tl_length] at hlen
            rw [lf_tl _ hlen] at h1
            rw [List.head_eq_getElem, ← h1]
            rcases EX.out with h | h
            · omega
            · exact h⟩)
          have RV := Lib.hid (R.out.to (y := lf (tl (fun i => x (k + i)) m)) (fun i hi => (lf_tl (fun i => x (k + i)) hi).symm) (lf_lt (isB_tl (fun i => hx.out _) m)))
          have TS0 := Lib.hid (show (⟨#[]⟩ : ByteArray) = dgS [] ∧ (dig 58 V0).reverse = (dig 58 V0).reverse ++ [] from ⟨by decide +kernel, (List.append_nil _).symm⟩)
          obtain ⟨ds0, hds0⟩ : ∃ ds0, ds0 = tl (fun i => x (k + i)) m := ⟨_, rfl⟩
          rw [← hds0] at D0 RV
          obtain ⟨wq, rfl⟩ : ∃ wq : World, wq = wr := ⟨_, rfl⟩
          have C0 := Lib.hid (Below.refl w.heap.size wq)
          have M0 := Lib.hid (show m ≤ 200 by omega)
          clear hV0 hds0 RS R UU ZZ EX
          go_loopg [4, 5] V0 (fun V s4 s5 wr => ∃ (m c g o : Nat) (p : Option Addr) (ds ts : List Nat) (T : ByteArray), s4 = .slice p m c ∧ s5 = .string T ∧ Hid (m ≤ 200) ∧ Hid (m = ds.length ∧ ds = (dig 256 V).reverse) ∧ Hid (T = dgS ts ∧ (dig 58 V0).reverse = (dig 58 V).reverse ++ ts) ∧ Hid (Row wr p g o m c (lf ds)) ∧ Hid (Below w.heap.size wq wr))
          case atStart => exact ⟨m, c, g, o, _, ds0, [], ⟨#[]⟩, rfl, rfl, M0, D0, TS0, RV, C0⟩
          case round =>
            clear D0 TS0 RV C0 M0
            obtain ⟨m, c, g, o, p, ds, ts, T, rfl, rfl, HM2, D, TS, R, CC⟩ := hrel
            obtain ⟨V, rfl⟩ : ∃ V : Nat, V = gk := ⟨_, rfl⟩
            have mm := HM2.out
            have tb : T.size ≤ 1600 := by
              have h1 := congrArg List.length TS.out.2
              rw [List.length_append, List.length_reverse, List.length_reverse] at h1
              rw [TS.out.1, dgS_size]
              have := TL.out
              omega
            by_cases hm : 0 < m
            · have h0i : (0 : Int) < (m : Int) := by omega
              have VP := Lib.hid (show 0 < V by
                rcases Nat.eq_zero_or_pos V with h | h
                · have h1 := D.out.1
                  rw [D.out.2, h] at h1
                  have h2 : (dig 256 0).reverse.length = 0 := rfl
                  omega
                · exact h)
              have VA := Lib.hid (show acc 256 (tl (lf ds) m) = V by rw [D.out.1, tl_lf, D.out.2, acc_rdig (by omega)])
              obtain ⟨wo, rfl⟩ : ∃ wo : World, wo = wr := ⟨_, rfl⟩
              have Q0 := Lib.hid (own_nothing wo wo.heap.size (lf []) (lf_lt isB_nil) (Nat.le_refl _))
              have E0 := Lib.hid (Below.refl wo.heap.size wo)
              have L0 := Lib.hid (show (0 : Nat) = ([] : List Nat).length ∧ acc 256 (tl (lf ds) 0) = 58 * 0 + 0 ∧ 0 < 58 ∧ ([] : List Nat) = (dig 256 0).reverse from ⟨rfl, rfl, by omega, rfl⟩)
              obtain rfl := R.out.head hm
              have DB := Lib.hid (show ∀ i, lf ds i < 256 from fun i => R.out.byte i)
              have DL := Lib.hid D.out.1
              clear hm D
              go_wp2
              go_loopg [6, 7, 35] m (fun kk s6 s7 s35 wr => ∃ (j r B m2 c2 g2 : Nat) (p2 : Option Addr) (qs : List Nat), j + kk = m ∧ m2 ≤ j ∧ s35 = .int .i64 (j : Int) ∧ s6 = .int .i64 (r : Int) ∧ s7 = .slice p2 m2 c2 ∧ Hid (m2 = qs.length ∧ acc 256 (tl (lf ds) j) = 58 * B + r ∧ r < 58 ∧ qs = (dig 256 B).reverse) ∧ Hid (Own wo.heap.size wr p2 g2 m2 c2 (lf qs)) ∧ Hid (Below wo.heap.size wo wr))
              case atStart => exact ⟨0, 0, 0, 0, 0, 0, none, [], by omega, by omega, rfl, rfl, rfl, L0, Q0, E0⟩
              case round =>
                clear Q0 E0 L0
                obtain ⟨j, r, B, m2, c2, g2, p2, qs, hj, hm2, rfl, rfl, rfl, L, N, EE⟩ := hrel
                obtain ⟨kk, rfl⟩ : ∃ kk : Nat, kk = gk := ⟨_, rfl⟩
                by_cases hlt : j < m
                · have HLT := Lib.hid hlt
                  obtain ⟨d, hd⟩ : ∃ d, d = lf ds j := ⟨_, rfl⟩
                  have db : d < 256 := by rw [hd]; exact DB.out j
                  have CL := Lib.hid (show wr.cell? ⟨g, o + j, none⟩ = some (.int .u8 (d : Int)) by have := (R.out.below EE.out).cell j hlt; rwa [← hd] at this)
                  have NX := Lib.hid (acc_next (l := ds) (j := j) (d := d) (by rw [← DL.out]; exact hlt) hd)
                  have rb := L.out.2.2.1
                  have ST := Lib.hid (long_step L.out.2.1 rb db)
                  obtain ⟨xx, hxx⟩ : ∃ xx, xx = (256 * r + d) / 58 := ⟨_, rfl⟩
                  have xb : xx < 256 := by rw [hxx]; exact ST.out.2
                  have exx : (256 * (r : Int) + (d : Int)) / 58 = (xx : Int) := by omega
                  have HXX := Lib.hid hxx
                  clear hd
                  by_cases hq : 0 < m2
                  · have h2i : (0 : Int) < (m2 : Int) := by omega
                    have BP := Lib.hid (show 0 < B ∨ 0 < xx from .inl (by
                      rcases Nat.eq_zero_or_pos B with h | h
                      · have h1 := L.out.1
                        rw [L.out.2.2.2, h] at h1
                        have h2 : (dig 256 0).reverse.length = 0 := rfl
                        omega
                      · exact h))
                    go_upto_region 17 with (first
                      | ((with_reducible refine wpList_at 37 rfl ?_); refine wpList_ix (k := 1) (j := j) Tryd.underlying22 (by kernel_rfl) (.tmp 33) (.tmp 35) rfl rfl rfl rfl HLT.out rfl ?_; rw [Nat.mul_one]; try simp only [Act.put, List.setIfInBounds_toArray, List.set_cons_zero, List.set_cons_succ])
                      | ((with_reducible refine wpList_at 38 rfl ?_); refine wpList_ld1 5 (.tmp 37) rfl rfl rfl Tryd.underlying5 rfl CL.out ?_; try simp only [Act.put, List.setIfInBounds_toArray, List.set_cons_zero, List.set_cons_succ]))
                    rw [exx]
                    go_wp2_with (first
                      | ((with_reducible refine wpList_at 55 rfl ?_); refine wpList_known4 rfl (.int .u8 (xx : Int)) _ (exec_cv rfl (conv_byte xb _)) ?_; try simp only [Act.put, List.setIfInBounds_toArray, List.set_cons_zero, List.set_cons_succ]) | ((with_reducible refine wpList_at 56 rfl ?_); refine wpList_b1 rfl _ rfl (.int .u8 (xx : Int)) (v := xx) (by kernel_rfl) rfl xb ?_; intro b7 w7 R7 hb7; replace N := Lib.hid (N.out.below hb7.out); replace EE := Lib.hid (EE.out.trans (hb7.out.mono EE.out.size)); clear hb7; try simp only [Act.put, List.setIfInBounds_toArray, List.set_cons_zero, List.set_cons_succ])
                      | ((with_reducible refine wpList_at 57 rfl ?_); refine wpList_app (.inl rfl) (.tmp 53) (.tmp 56) rfl rfl N rfl R7 (by omega) ?_; clear N R7; intro p8 g8 c8 w8 N hb8; replace EE := Lib.hid (EE.out.trans hb8.out); clear hb8; try simp only [Act.put, List.setIfInBounds_toArray, List.set_cons_zero, List.set_cons_succ]))
                    have L9 := Lib.hid (show m2 + 1 = (qs ++ [xx]).length ∧ acc 256 (tl (lf ds) (j + 1)) = 58 * (256 * B + xx) + (256 * r + d) % 58 ∧ (256 * r + d) % 58 < 58 ∧ qs ++ [xx] = (dig 256 (256 * B + xx)).reverse from ⟨by rw [List.length_append, ← L.out.1]; rfl, by rw [NX.out, HXX.out]; exact ST.out.1, Nat.mod_lt _ (by omega), by rw [long_dig xb BP.out, ← L.out.2.2.2]⟩)
                    have N9 := Lib.hid (N.out.to (y := lf (qs ++ [xx])) (fun i hi => by
                      rw [← lf_cat, ← L.out.1]
                      unfold cat
                      by_cases h : i < m2
                      · rw [if_pos h, if_pos h]
                      · rw [if_neg h, if_neg h, show i - m2 = 0 by omega]; rfl) (lf_lt fun v hv => by
                      rcases List.mem_append.1 hv with h | h
                      · rw [L.out.2.2.2] at h; exact dig_lt (by omega) _ v (List.mem_reverse.1 h)
                      · rw [List.mem_singleton] at h; omega))
                    clear N
                    go_roundg (m - (j + 1))
                    case measure => omega
                    case rel => exact ⟨j + 1, (256 * r + d) % 58, 256 * B + xx, m2 + 1, c8, g8, p8, _, by omega, by omega, by go_num, congrArg (Value.int .i64) (by omega), rfl, L9, N9, EE⟩
                  · obtain rfl : m2 = 0 := by omega
                    have BZ : B = 0 := by
                      rcases Nat.eq_zero_or_pos B with h | h
                      · exact h
                      · have h1 := L.out.1
                        rw [L.out.2.2.2, List.length_reverse, dig_pos (by omega) h, List.length_cons] at h1
                        omega
                    by_cases hx0 : 0 < xx
                    · have hx0i : (0 : Int) < (xx : Int) := by omega
                      have BP := Lib.hid (show 0 < B ∨ 0 < xx from .inr hx0)
                      go_upto_region 17 with (first
                        | ((with_reducible refine wpList_at 37 rfl ?_); refine wpList_ix (k := 1) (j := j) Tryd.underlying22 (by kernel_rfl) (.tmp 33) (.tmp 35) rfl rfl rfl rfl HLT.out rfl ?_; rw [Nat.mul_one]; try simp only [Act.put, List.setIfInBounds_toArray, List.set_cons_zero, List.set_cons_succ])
                        | ((with_reducible refine wpList_at 38 rfl ?_); refine wpList_ld1 5 (.tmp 37) rfl rfl rfl Tryd.underlying5 rfl CL.out ?_; try simp only [Act.put, List.setIfInBounds_toArray, List.set_cons_zero, List.set_cons_succ]))
                      rw [exx]
                      go_wp2_with (first
                        | ((with_reducible refine wpList_at 51 rfl ?_); refine wpList_known4 rfl (.bool true) _ (exec_pos rfl rfl rfl hx0) ?_; try simp only [Act.put, List.setIfInBounds_toArray, List.set_cons_zero, List.set_cons_succ]) | ((with_reducible refine wpList_at 55 rfl ?_); refine wpList_known4 rfl (.int .u8 (xx : Int)) _ (exec_cv rfl (conv_byte xb _)) ?_; try simp only [Act.put, List.setIfInBounds_toArray, List.set_cons_zero, List.set_cons_succ]) | ((with_reducible refine wpList_at 56 rfl ?_); refine wpList_b1 rfl _ rfl (.int .u8 (xx : Int)) (v := xx) (by kernel_rfl) rfl xb ?_; intro b7 w7 R7 hb7; replace N := Lib.hid (N.out.below hb7.out); replace EE := Lib.hid (EE.out.trans (hb7.out.mono EE.out.size)); clear hb7; try simp only [Act.put, List.setIfInBounds_toArray, List.set_cons_zero, List.set_cons_succ])
                        | ((with_reducible refine wpList_at 57 rfl ?_); refine wpList_app (.inl rfl) (.tmp 53) (.tmp 56) rfl rfl N rfl R7 (by omega) ?_; clear N R7; intro p8 g8 c8 w8 N hb8; replace EE := Lib.hid (EE.out.trans hb8.out); clear hb8; try simp only [Act.put, List.setIfInBounds_toArray, List.set_cons_zero, List.set_cons_succ]))
                      have L9 := Lib.hid (show 0 + 1 = (qs ++ [xx]).length ∧ acc 256 (tl (lf ds) (j + 1)) = 58 * (256 * B + xx) + (256 * r + d) % 58 ∧ (256 * r + d) % 58 < 58 ∧ qs ++ [xx] = (dig 256 (256 * B + xx)).reverse from ⟨by rw [List.length_append, ← L.out.1]; rfl, by rw [NX.out, HXX.out]; exact ST.out.1, Nat.mod_lt _ (by omega), by rw [long_dig xb BP.out, ← L.out.2.2.2]⟩)
                      have N9 := Lib.hid (N.out.to (y := lf (qs ++ [xx])) (fun i hi => by
                        rw [← lf_cat, ← L.out.1]
                        unfold cat
                        by_cases h : i < 0
                        · rw [if_pos h, if_pos h]
                        · rw [if_neg h, if_neg h, show i - 0 = 0 by omega]; rfl) (lf_lt fun v hv => by
                        rcases List.mem_append.1 hv with h | h
                        · rw [L.out.2.2.2] at h; exact dig_lt (by omega) _ v (List.mem_reverse.1 h)
                        · rw [List.mem_singleton] at h; omega))
                      clear N
                      go_roundg (m - (j + 1))
                      case measure => omega
                      case rel => exact ⟨j + 1, (256 * r + d) % 58, 256 * B + xx, 0 + 1, c8, g8, p8, _, by omega, by omega, by go_num, congrArg (Value.int .i64) (by omega), rfl, L9, N9, EE⟩
                    · have XZ : xx = 0 := by omega
                      have L9 := Lib.hid (show (0 : Nat) = qs.length ∧ acc 256 (tl (lf ds) (j + 1)) = 58 * 0 + (256 * r + d) % 58 ∧ (256 * r + d) % 58 < 58 ∧ qs = (dig 256 0).reverse from ⟨L.out.1, by have h1 := ST.out.1; have h2 := NX.out; have h3 := HXX.out; rw [BZ] at h1; omega, Nat.mod_lt _ (by omega), by rw [L.out.2.2.2, BZ]⟩)
                      rw [XZ] at exx
                      go_upto_region 17 with (first
                        | ((with_reducible refine wpList_at 37 rfl ?_); refine wpList_ix (k := 1) (j := j) Tryd.underlying22 (by kernel_rfl) (.tmp 33) (.tmp 35) rfl rfl rfl rfl HLT.out rfl ?_; rw [Nat.mul_one]; try simp only [Act.put, List.setIfInBounds_toArray, List.set_cons_zero, List.set_cons_succ])
                        | ((with_reducible refine wpList_at 38 rfl ?_); refine wpList_ld1 5 (.tmp 37) rfl rfl rfl Tryd.underlying5 rfl CL.out ?_; try simp only [Act.put, List.setIfInBounds_toArray, List.set_cons_zero, List.set_cons_succ]))
                      rw [exx]
                      go_wp2
                      go_roundg (m - (j + 1))
                      case measure => omega
                      case rel => exact ⟨j + 1, (256 * r + d) % 58, 0, 0, c2, g2, p2, qs, by omega, by omega, by go_num, congrArg (Value.int .i64) (by omega), rfl, L9, N, EE⟩
                · obtain rfl : j = m := by omega
                  have VB := Lib.hid (VA.out.symm.trans L.out.2.1)
                  have rb := L.out.2.2.1
                  obtain ⟨S1, hS1⟩ : ∃ S1, S1 = dgS [r] := ⟨_, rfl⟩
                  have s1 : S1.size = 1 := by rw [hS1, dgS_size]; rfl
                  have CU := Lib.hid hS1
                  have TS9 := Lib.hid (show S1 ++ T = dgS (r :: ts) ∧ (dig 58 V0).reverse = (dig 58 B).reverse ++ (r :: ts) from ⟨by rw [hS1, TS.out.1, ← dgS_cat]; rfl, by
                    rw [TS.out.2, VB.out, dig_pos (by omega) (by have := VP.out; have := VB.out; omega), show (58 * B + r) % 58 = r by omega, show (58 * B + r) / 58 = B by omega, List.reverse_cons, List.append_assoc]; rfl⟩)
                  have RQ := Lib.hid N.out.row
                  have D9 := Lib.hid (show m2 = qs.length ∧ qs = (dig 256 B).reverse from ⟨L.out.1, L.out.2.2.2⟩)
                  have C9 := Lib.hid (CC.out.trans (EE.out.mono (Nat.le_trans W1.out CC.out.size)))
                  have M9 := Lib.hid (show m2 ≤ 200 by omega)
                  clear hS1 N CC EE TS
                  go_wp2_with (first
                    | ((with_reducible refine wpList_at 64 rfl ?_); refine wpList_known4 rfl (.string S1) _ (exec_cutS rfl rfl rfl rfl rb CU.out) ?_; try simp only [Act.put, List.setIfInBounds_toArray, List.set_cons_zero, List.set_cons_succ])
                    | ((with_reducible refine wpList_at 66 rfl ?_); refine wpList_known4 rfl (.string (S1 ++ T)) _ (exec_cat rfl rfl rfl (by omega)) ?_; try simp only [Act.put, List.setIfInBounds_toArray, List.set_cons_zero, List.set_cons_succ]))
                  go_roundg B
                  case measure => have := VP.out; have := VB.out; omega
                  case rel => exact ⟨m2, c2, g2, _, p2, qs, r :: ts, S1 ++ T, rfl, rfl, M9, D9, TS9, RQ, C9⟩
            · have b1 : decide ((0 : Int) < (m : Int)) = false := decide_eq_false (by omega)
              have VZ : V = 0 := by
                rcases Nat.eq_zero_or_pos V with h | h
                · exact h
                · have h1 := D.out.1
                  rw [D.out.2, List.length_reverse, dig_pos (by omega) h, List.length_cons] at h1
                  omega
              have RS3 := Lib.hid (show u ++ T = RES from by
                rw [← RS2.out, TS.out.2, VZ, TS.out.1]; rfl)
              have BB := Lib.hid (B0.out.trans CC.out)
              go_wp2_with (first
                | ((with_reducible refine wpList_at 70 rfl ?_); refine wpList_known4 rfl (.string (u ++ T)) _ (exec_cat rfl rfl rfl (by omega)) ?_; try simp only [Act.put, List.setIfInBounds_toArray, List.set_cons_zero, List.set_cons_succ]))
              go_ret
              exact ⟨by rw [← RS3.out]; rfl, BB.out⟩
      · have EX := Lib.hid (show m = 0 ∨ x k ≠ 0 from .inl (by omega))
        have b1 : decide ((0 : Int) < (m : Int)) = false := decide_eq_false (by omega)
        go_upto_region 9 with fail
        clear b1 hm
        obtain ⟨V0, hV0⟩ : ∃ V0, V0 = acc 256 (tl (fun i => x (k + i)) m) := ⟨_, rfl⟩
        have RS2 := Lib.hid (RS.out k m u hk UU.out ZZ.out EX.out)
        rw [← hV0] at RS2
        have us : u.size ≤ 200 := by have := UU.out.1; omega
        have TL := Lib.hid (show (dig 58 V0).length ≤ 8 * m by
          rw [hV0]
          have := dig_bound (b := 256) (c := 58) (by omega) (by omega) (by decide) (tl_mem (x := fun i => x (k + i)) (n := m) fun i _ => hx.out _)
          rwa [tl_length] at this)
        have D0 := Lib.hid (show m = (tl (fun i => x (k + i)) m).length ∧ tl (fun i => x (k + i)) m = (dig 256 V0).reverse from ⟨(tl_length _ _).symm, by
          rw [hV0]
          refine (dig_acc (by omega) (tl_mem fun i _ => hx.out _) fun hl => ?_).symm
          have hlen : 0 < (tl (fun i => x (k + i)) m).length := List.length_pos_iff.2 hl
          have h1 := lf_get (l := tl (fun i => x (k + i)) m) hlen
          rw [tl_length] at hlen
          rw [lf_tl _ hlen] at h1
          rw [List.head_eq_getElem, ← h1]
          rcases EX.out with h | h
          · omega
          · exact h⟩)
        have RV := Lib.hid (R.out.to (y := lf (tl (fun i => x (k + i)) m)) (fun i hi => (lf_tl (fun i => x (k + i)) hi).symm) (lf_lt (isB_tl (fun i => hx.out _) m)))
        have TS0 := Lib.hid (show (⟨#[]⟩ : ByteArray) = dgS [] ∧ (dig 58 V0).reverse = (dig 58 V0).reverse ++ [] from ⟨by decide +kernel, (List.append_nil _).symm⟩)
        obtain ⟨ds0, hds0⟩ : ∃ ds0, ds0 = tl (fun i => x (k + i)) m := ⟨_, rfl⟩
        rw [← hds0] at D0 RV
        obtain ⟨wq, rfl⟩ : ∃ wq : World, wq = wr := ⟨_, rfl⟩
        have C0 := Lib.hid (Below.refl w.heap.size wq)
        have M0 := Lib.hid (show m ≤ 200 by omega)
        clear hV0 hds0 RS R UU ZZ EX
        go_loopg [4, 5] V0 (fun V s4 s5 wr => ∃ (m c g o : Nat) (p : Option Addr) (ds ts : List Nat) (T : ByteArray), s4 = .slice p m c ∧ s5 = .string T ∧ Hid (m ≤ 200) ∧ Hid (m = ds.length ∧ ds = (dig 256 V).reverse) ∧ Hid (T = dgS ts ∧ (dig 58 V0).reverse = (dig 58 V).reverse ++ ts) ∧ Hid (Row wr p g o m c (lf ds)) ∧ Hid (Below w.heap.size wq wr))
        case atStart => exact ⟨m, c, g, o, _, ds0, [], ⟨#[]⟩, rfl, rfl, M0, D0, TS0, RV, C0⟩
        case round =>
          clear D0 TS0 RV C0 M0
          obtain ⟨m, c, g, o, p, ds, ts, T, rfl, rfl, HM2, D, TS, R, CC⟩ := hrel
          obtain ⟨V, rfl⟩ : ∃ V : Nat, V = gk := ⟨_, rfl⟩
          have mm := HM2.out
          have tb : T.size ≤ 1600 := by
            have h1 := congrArg List.length TS.out.2
            rw [List.length_append, List.length_reverse, List.length_reverse] at h1
            rw [TS.out.1, dgS_size]
            have := TL.out
            omega
          by_cases hm : 0 < m
          · have h0i : (0 : Int) < (m : Int) := by omega
            have VP := Lib.hid (show 0 < V by
              rcases Nat.eq_zero_or_pos V with h | h
              · have h1 := D.out.1
                rw [D.out.2, h] at h1
                have h2 : (dig 256 0).reverse.length = 0 := rfl
                omega
              · exact h)
            have VA := Lib.hid (show acc 256 (tl (lf ds) m) = V by rw [D.out.1, tl_lf, D.out.2, acc_rdig (by omega)])
            obtain ⟨wo, rfl⟩ : ∃ wo : World, wo = wr := ⟨_, rfl⟩
            have Q0 := Lib.hid (own_nothing wo wo.heap.size (lf []) (lf_lt isB_nil) (Nat.le_refl _))
            have E0 := Lib.hid (Below.refl wo.heap.size wo)
            have L0 := Lib.hid (show (0 : Nat) = ([] : List Nat).length ∧ acc 256 (tl (lf ds) 0) = 58 * 0 + 0 ∧ 0 < 58 ∧ ([] : List Nat) = (dig 256 0).reverse from ⟨rfl, rfl, by omega, rfl⟩)
            obtain rfl := R.out.head hm
            have DB := Lib.hid (show ∀ i, lf ds i < 256 from fun i => R.out.byte i)
            have DL := Lib.hid D.out.1
            clear hm D
            go_wp2
            go_loopg [6, 7, 35] m (fun kk s6 s7 s35 wr => ∃ (j r B m2 c2 g2 : Nat) (p2 : Option Addr) (qs : List Nat), j + kk = m ∧ m2 ≤ j ∧ s35 = .int .i64 (j : Int) ∧ s6 = .int .i64 (r : Int) ∧ s7 = .slice p2 m2 c2 ∧ Hid (m2 = qs.length ∧ acc 256 (tl (lf ds) j) = 58 * B + r ∧ r < 58 ∧ qs = (dig 256 B).reverse) ∧ Hid (Own wo.heap.size wr p2 g2 m2 c2 (lf qs)) ∧ Hid (Below wo.heap.size wo wr))
            case atStart => exact ⟨0, 0, 0, 0, 0, 0, none, [], by omega, by omega, rfl, rfl, rfl, L0, Q0, E0⟩
            case round =>
              clear Q0 E0 L0
              obtain ⟨j, r, B, m2, c2, g2, p2, qs, hj, hm2, rfl, rfl, rfl, L, N, EE⟩ := hrel
              obtain ⟨kk, rfl⟩ : ∃ kk : Nat, kk = gk := ⟨_, rfl⟩
              by_cases hlt : j < m
              · have HLT := Lib.hid hlt
                obtain ⟨d, hd⟩ : ∃ d, d = lf ds j := ⟨_, rfl⟩
                have db : d < 256 := by rw [hd]; exact DB.out j
                have CL := Lib.hid (show wr.cell? ⟨g, o + j, none⟩ = some (.int .u8 (d : Int)) by have := (R.out.below EE.out).cell j hlt; rwa [← hd] at this)
                have NX := Lib.hid (acc_next (l := ds) (j := j) (d := d) (by rw [← DL.out]; exact hlt) hd)
                have rb := L.out.2.2.1
                have ST := Lib.hid (long_step L.out.2.1 rb db)
                obtain ⟨xx, hxx⟩ : ∃ xx, xx = (256 * r + d) / 58 := ⟨_, rfl⟩
                have xb : xx < 256 := by rw [hxx]; exact ST.out.2
                have exx : (256 * (r : Int) + (d : Int)) / 58 = (xx : Int) := by omega
                have HXX := Lib.hid hxx
                clear hd
                by_cases hq : 0 < m2
                · have h2i : (0 : Int) < (m2 : Int) := by omega
                  have BP := Lib.hid (show 0 < B ∨ 0 < xx from .inl (by
                    rcases Nat.eq_zero_or_pos B with h | h
                    · have h1 := L.out.1
                      rw [L.out.2.2.2, h] at h1
                      have h2 : (dig 256 0).reverse.length = 0 := rfl
                      omega
                    · exact h))
                  go_upto_region 17 with (first
                    | ((with_reducible refine wpList_at 37 rfl ?_); refine wpList_ix (k := 1) (j := j) Tryd.underlying22 (by kernel_rfl) (.tmp 33) (.tmp 35) rfl rfl rfl rfl HLT.out rfl ?_; rw [Nat.mul_one]; try simp only [Act.put, List.setIfInBounds_toArray, List.set_cons_zero, List.set_cons_succ])
                    | ((with_reducible refine wpList_at 38 rfl ?_); refine wpList_ld1 5 (.tmp 37) rfl rfl rfl Tryd.underlying5 rfl CL.out ?_; try simp only [Act.put, List.setIfInBounds_toArray, List.set_cons_zero, List.set_cons_succ]))
                  rw [exx]
                  go_wp2_with (first
                    | ((with_reducible refine wpList_at 55 rfl ?_); refine wpList_known4 rfl (.int .u8 (xx : Int)) _ (exec_cv rfl (conv_byte xb _)) ?_; try simp only [Act.put, List.setIfInBounds_toArray, List.set_cons_zero, List.set_cons_succ]) | ((with_reducible refine wpList_at 56 rfl ?_); refine wpList_b1 rfl _ rfl (.int .u8 (xx : Int)) (v := xx) (by kernel_rfl) rfl xb ?_; intro b7 w7 R7 hb7; replace N := Lib.hid (N.out.below hb7.out); replace EE := Lib.hid (EE.out.trans (hb7.out.mono EE.out.size)); clear hb7; try simp only [Act.put, List.setIfInBounds_toArray, List.set_cons_zero, List.set_cons_succ])
                    | ((with_reducible refine wpList_at 57 rfl ?_); refine wpList_app (.inl rfl) (.tmp 53) (.tmp 56) rfl rfl N rfl R7 (by omega) ?_; clear N R7; intro p8 g8 c8 w8 N hb8; replace EE := Lib.hid (EE.out.trans hb8.out); clear hb8; try simp only [Act.put, List.setIfInBounds_toArray, List.set_cons_zero, List.set_cons_succ]))
                  have L9 := Lib.hid (show m2 + 1 = (qs ++ [xx]).length ∧ acc 256 (tl (lf ds) (j + 1)) = 58 * (256 * B + xx) + (256 * r + d) % 58 ∧ (256 * r + d) % 58 < 58 ∧ qs ++ [xx] = (dig 256 (256 * B + xx)).reverse from ⟨by rw [List.length_append, ← L.out.1]; rfl, by rw [NX.out, HXX.out]; exact ST.out.1, Nat.mod_lt _ (by omega), by rw [long_dig xb BP.out, ← L.out.2.2.2]⟩)
                  have N9 := Lib.hid (N.out.to (y := lf (qs ++ [xx])) (fun i hi => by
                    rw [← lf_cat, ← L.out.1]
                    unfold cat
                    by_cases h : i < m2
                    · rw [if_pos h, if_pos h]
                    · rw [if_neg h, if_neg h, show i - m2 = 0 by omega]; rfl) (lf_lt fun v hv => by
                    rcases List.mem_append.1 hv with h | h
                    · rw [L.out.2.2.2] at h; exact dig_lt (by omega) _ v (List.mem_reverse.1 h)
                    · rw [List.mem_singleton] at h; omega))
                  clear N
                  go_roundg (m - (j + 1))
                  case measure => omega
                  case rel => exact ⟨j + 1, (256 * r + d) % 58, 256 * B + xx, m2 + 1, c8, g8, p8, _, by omega, by omega, by go_num, congrArg (Value.int .i64) (by omega), rfl, L9, N9, EE⟩
                · obtain rfl : m2 = 0 := by omega
                  have BZ : B = 0 := by
                    rcases Nat.eq_zero_or_pos B with h | h
                    · exact h
                    · have h1 := L.out.1
                      rw [L.out.2.2.2, List.length_reverse, dig_pos (by omega) h, List.length_cons] at h1
                      omega
                  by_cases hx0 : 0 < xx
                  · have hx0i : (0 : Int) < (xx : Int) := by omega
                    have BP := Lib.hid (show 0 < B ∨ 0 < xx from .inr hx0)
                    go_upto_region 17 with (first
                      | ((with_reducible refine wpList_at 37 rfl ?_); refine wpList_ix (k := 1) (j := j) Tryd.underlying22 (by kernel_rfl) (.tmp 33) (.tmp 35) rfl rfl rfl rfl HLT.out rfl ?_; rw [Nat.mul_one]; try simp only [Act.put, List.setIfInBounds_toArray, List.set_cons_zero, List.set_cons_succ])
                      | ((with_reducible refine wpList_at 38 rfl ?_); refine wpList_ld1 5 (.tmp 37) rfl rfl rfl Tryd.underlying5 rfl CL.out ?_; try simp only [Act.put, List.setIfInBounds_toArray, List.set_cons_zero, List.set_cons_succ]))
                    rw [exx]
                    go_wp2_with (first
                      | ((with_reducible refine wpList_at 51 rfl ?_); refine wpList_known4 rfl (.bool true) _ (exec_pos rfl rfl rfl hx0) ?_; try simp only [Act.put, List.setIfInBounds_toArray, List.set_cons_zero, List.set_cons_succ]) | ((with_reducible refine wpList_at 55 rfl ?_); refine wpList_known4 rfl (.int .u8 (xx : Int)) _ (exec_cv rfl (conv_byte xb _)) ?_; try simp only [Act.put, List.setIfInBounds_toArray, List.set_cons_zero, List.set_cons_succ]) | ((with_reducible refine wpList_at 56 rfl ?_); refine wpList_b1 rfl _ rfl (.int .u8 (xx : Int)) (v := xx) (by kernel_rfl) rfl xb ?_; intro b7 w7 R7 hb7; replace N := Lib.hid (N.out.below hb7.out); replace EE := Lib.hid (EE.out.trans (hb7.out.mono EE.out.size)); clear hb7; try simp only [Act.put, List.setIfInBounds_toArray, List.set_cons_zero, List.set_cons_succ])
                      | ((with_reducible refine wpList_at 57 rfl ?_); refine wpList_app (.inl rfl) (.tmp 53) (.tmp 56) rfl rfl N rfl R7 (by omega) ?_; clear N R7; intro p8 g8 c8 w8 N hb8; replace EE := Lib.hid (EE.out.trans hb8.out); clear hb8; try simp only [Act.put, List.setIfInBounds_toArray, List.set_cons_zero, List.set_cons_succ]))
                    have L9 := Lib.hid (show 0 + 1 = (qs ++ [xx]).length ∧ acc 256 (tl (lf ds) (j + 1)) = 58 * (256 * B + xx) + (256 * r + d) % 58 ∧ (256 * r + d) % 58 < 58 ∧ qs ++ [xx] = (dig 256 (256 * B + xx)).reverse from ⟨by rw [List.length_append, ← L.out.1]; rfl, by rw [NX.out, HXX.out]; exact ST.out.1, Nat.mod_lt _ (by omega), by rw [long_dig xb BP.out, ← L.out.2.2.2]⟩)
                    have N9 := Lib.hid (N.out.to (y := lf (qs ++ [xx])) (fun i hi => by
                      rw [← lf_cat, ← L.out.1]
                      unfold cat
                      by_cases h : i < 0
                      · rw [if_pos h, if_pos h]
                      · rw [if_neg h, if_neg h, show i - 0 = 0 by omega]; rfl) (lf_lt fun v hv => by
                      rcases List.mem_append.1 hv with h | h
                      · rw [L.out.2.2.2] at h; exact dig_lt (by omega) _ v (List.mem_reverse.1 h)
                      · rw [List.mem_singleton] at h; omega))
                    clear N
                    go_roundg (m - (j + 1))
                    case measure => omega
                    case rel => exact ⟨j + 1, (256 * r + d) % 58, 256 * B + xx, 0 + 1, c8, g8, p8, _, by omega, by omega, by go_num, congrArg (Value.int .i64) (by omega), rfl, L9, N9, EE⟩
                  · have XZ : xx = 0 := by omega
                    have L9 := Lib.hid (show (0 : Nat) = qs.length ∧ acc 256 (tl (lf ds) (j + 1)) = 58 * 0 + (256 * r + d) % 58 ∧ (256 * r + d) % 58 < 58 ∧ qs = (dig 256 0).reverse from ⟨L.out.1, by have h1 := ST.out.1; have h2 := NX.out; have h3 := HXX.out; rw [BZ] at h1; omega, Nat.mod_lt _ (by omega), by rw [L.out.2.2.2, BZ]⟩)
                    rw [XZ] at exx
                    go_upto_region 17 with (first
                      | ((with_reducible refine wpList_at 37 rfl ?_); refine wpList_ix (k := 1) (j := j) Tryd.underlying22 (by kernel_rfl) (.tmp 33) (.tmp 35) rfl rfl rfl rfl HLT.out rfl ?_; rw [Nat.mul_one]; try simp only [Act.put, List.setIfInBounds_toArray, List.set_cons_zero, List.set_cons_succ])
                      | ((with_reducible refine wpList_at 38 rfl ?_); refine wpList_ld1 5 (.tmp 37) rfl rfl rfl Tryd.underlying5 rfl CL.out ?_; try simp only [Act.put, List.setIfInBounds_toArray, List.set_cons_zero, List.set_cons_succ]))
                    rw [exx]
                    go_wp2
                    go_roundg (m - (j + 1))
                    case measure => omega
                    case rel => exact ⟨j + 1, (256 * r + d) % 58, 0, 0, c2, g2, p2, qs, by omega, by omega, by go_num, congrArg (Value.int .i64) (by omega), rfl, L9, N, EE⟩
              · obtain rfl : j = m := by omega
                have VB := Lib.hid (VA.out.symm.trans L.out.2.1)
                have rb := L.out.2.2.1
                obtain ⟨S1, hS1⟩ : ∃ S1, S1 = dgS [r] := ⟨_, rfl⟩
                have s1 : S1.size = 1 := by rw [hS1, dgS_size]; rfl
                have CU := Lib.hid hS1
                have TS9 := Lib.hid (show S1 ++ T = dgS (r :: ts) ∧ (dig 58 V0).reverse = (dig 58 B).reverse ++ (r :: ts) from ⟨by rw [hS1, TS.out.1, ← dgS_cat]; rfl, by
                  rw [TS.out.2, VB.out, dig_pos (by omega) (by have := VP.out; have := VB.out; omega), show (58 * B + r) % 58 = r by omega, show (58 * B + r) / 58 = B by omega, List.reverse_cons, List.append_assoc]; rfl⟩)
                have RQ := Lib.hid N.out.row
                have D9 := Lib.hid (show m2 = qs.length ∧ qs = (dig 256 B).reverse from ⟨L.out.1, L.out.2.2.2⟩)
                have C9 := Lib.hid (CC.out.trans (EE.out.mono (Nat.le_trans W1.out CC.out.size)))
                have M9 := Lib.hid (show m2 ≤ 200 by omega)
                clear hS1 N CC EE TS
                go_wp2_with (first
                  | ((with_reducible refine wpList_at 64 rfl ?_); refine wpList_known4 rfl (.string S1) _ (exec_cutS rfl rfl rfl rfl rb CU.out) ?_; try simp only [Act.put, List.setIfInBounds_toArray, List.set_cons_zero, List.set_cons_succ])
                  | ((with_reducible refine wpList_at 66 rfl ?_); refine wpList_known4 rfl (.string (S1 ++ T)) _ (exec_cat rfl rfl rfl (by omega)) ?_; try simp only [Act.put, List.setIfInBounds_toArray, List.set_cons_zero, List.set_cons_succ]))
                go_roundg B
                case measure => have := VP.out; have := VB.out; omega
                case rel => exact ⟨m2, c2, g2, _, p2, qs, r :: ts, S1 ++ T, rfl, rfl, M9, D9, TS9, RQ, C9⟩
          · have b1 : decide ((0 : Int) < (m : Int)) = false := decide_eq_false (by omega)
            have VZ : V = 0 := by
              rcases Nat.eq_zero_or_pos V with h | h
              · exact h
              · have h1 := D.out.1
                rw [D.out.2, List.length_reverse, dig_pos (by omega) h, List.length_cons] at h1
                omega
            have RS3 := Lib.hid (show u ++ T = RES from by
              rw [← RS2.out, TS.out.2, VZ, TS.out.1]; rfl)
            have BB := Lib.hid (B0.out.trans CC.out)
            go_wp2_with (first
              | ((with_reducible refine wpList_at 70 rfl ?_); refine wpList_known4 rfl (.string (u ++ T)) _ (exec_cat rfl rfl rfl (by omega)) ?_; try simp only [Act.put, List.setIfInBounds_toArray, List.set_cons_zero, List.set_cons_succ]))
            go_ret
            exact ⟨by rw [← RS3.out]; rfl, BB.out⟩
end Go.Proofs.YtghjgkgfpblijaaDoor
