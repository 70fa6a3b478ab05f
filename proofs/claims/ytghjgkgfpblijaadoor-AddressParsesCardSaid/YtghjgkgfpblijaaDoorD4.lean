/- The document's candidate. -/
import Derived.Test.YtghjgkgfpblijaaDoorD3
set_option linter.unusedSimpArgs false
set_option linter.unusedVariables false
set_option maxRecDepth 100000
namespace Go.Proofs.YtghjgkgfpblijaaDoor
open Go.ChangeShapes Go.WideShapes Go.RowKit Go.Lib Go.Sort

theorem exec_take3 {o : Oper} {ev : Operand → Value} {W : World} {x : Operand} {s : ByteArray} (ho : o.op = .slice 9 x none (some (.const (.int .i64 3))) none) (hx : ev x = .string s) (hc : ev (.const (.int .i64 3)) = .int .i64 3) (hl : 3 ≤ s.size) : (execOp ev o).run Tryd.prog W = .ok (.value (.string (s.extract 0 3))) W := by
  unfold execOp
  simp only [ho, Option.map_some, Option.map_none, hx, hc, Sem.run_bind, run_sliceAt_string (w := W) 9 _ _ _ _ Tryd.underlying9, run_slice_string_h (w := W) (s := s) 9 Tryd.underlying9 .i64 3 (by omega) (by omega), Result.andThen_ok]
  rfl
theorem exec_neqS {o : Oper} {ev : Operand → Value} {W : World} {x y : Operand} {s t : ByteArray} (r : Bool) (ho : o.op = .binOp .neq 9 x y 9) (hx : ev x = .string s) (hy : ev y = .string t) (hr : s = t ↔ r = false) : (execOp ev o).run Tryd.prog W = .ok (.value (.bool r)) W := by
  unfold execOp
  by_cases h : s = t
  · have hr2 := hr.1 h
    subst h hr2
    simp [ho, hx, hy, go_sem, binOp, Tryd.underlying9, Op.stringOp]
  · have hr2 : r = true := by simpa using (fun q => h (hr.2 q))
    subst hr2
    have h2 : ¬ s.toList = t.toList := fun q => h (bas_inj q)
    simp [ho, hx, hy, go_sem, binOp, Tryd.underlying9, Op.stringOp, h2]
theorem irow_drop1 {w : World} {p : Option Addr} {g n c : Nat} {x : Nat → Nat} (R : VRow 1 w p g 0 n c (iv x)) (h : 1 ≤ n) : ∃ p', sliced p 1 n c 1 = .slice p' (n - 1) (c - 1) ∧ VRow 1 w p' g 1 (n - 1) (c - 1) (iv fun i => x (1 + i)) := by
  obtain ⟨p2, e2, R2⟩ := VRow.slice R (l := 1) (h := n) (m := c) h (Nat.le_refl _) R.le (Nat.le_refl _)
  exact ⟨p2, e2, R2⟩
theorem run_slI {w : World} {p : Option Addr} {n c : Nat} {lo hi mx : Option Value} {l h m : Nat} (hb : (Instr.sliceBounds true n c lo hi mx).run Tryd.prog w = .ok (l, h, m) w) :
    (Instr.sliceAt 37 (.slice p n c) lo hi mx).run Tryd.prog w = .ok (sliced p l h m 1) w := by
  have he : Tryd.prog.elem 37 = 3 := by kernel_rfl
  have ht : Tryd.prog.underlying 37 = some (.slice (Tryd.prog.elem 37)) := by rw [he]; exact Tryd.underlying37
  have hsz : (sizeOf 3).run Tryd.prog w = .ok 1 w := by kernel_rfl
  rw [run_sliceAt_slice w 37 _ _ _ _ ht, run_slice_any w 37 p n c ht, hb]
  simp only [Result.andThen_ok, he, hsz]
def CandEnd (w : World) (o : List Nat × Bool) (e : Ending) (w' : World) : Prop := ∃ p g c, e = .returned (.tuple #[.slice p o.1.length c, .bool o.2]) ∧ Row w' p g 0 o.1.length c (lf o.1) ∧ Below w.heap.size w w'
theorem cand_none {w w' : World} {s : ByteArray} (h : candS s = ([], false)) (hb : Below w.heap.size w w') : CandEnd w (candS s) (.returned (.tuple #[.slice none 0 0, .bool false])) w' := by
  rw [h]
  exact ⟨none, 0, 0, rfl, Row.nothing _ _ (lf_lt isB_nil), hb⟩
set_option maxHeartbeats 16000000 in
theorem cand_any {w : World} (s : ByteArray) : Calls Tryd.prog 32 #[.string s] w (CandEnd w (candS s)) := by
  obtain ⟨sz, hsz⟩ : ∃ sz, sz = s.size := ⟨_, rfl⟩
  have HSZ := Lib.hid hsz.symm
  by_cases h10 : sz < 10
  · have Y1 := Lib.hid (show decide (sz < 10) = true by simp [h10])
    have NO := Lib.hid (show candS s = ([], false) by unfold candS cA; rw [if_neg (by rw [decide_eq_true_eq]; omega)])
    clear h10 hsz
    go_enter Tryd.func32, Tryd.ntmps32
    go_wp2_with (first
      | ((with_reducible refine wpList_at 8 rfl ?_); refine wpList_known4 rfl (.int .i64 (sz : Int)) _ (by exact by rw [← HSZ.out]; exact exec_lenS rfl rfl) ?_; try simp only [Act.put, List.setIfInBounds_toArray, List.set_cons_zero, List.set_cons_succ])
      | ((with_reducible refine wpList_at 9 rfl ?_); refine wpList_known4 rfl (.bool true) _ (by exact exec_lss3v (a := sz) (b := 10) (q := true) rfl rfl rfl Y1.out) ?_; try simp only [Act.put, List.setIfInBounds_toArray, List.set_cons_zero, List.set_cons_succ]))
    go_ret2
    exact cand_none NO.out (Below.refl _ _)
  · have Y1 := Lib.hid (show decide (sz < 10) = false by simp; omega)
    by_cases h90 : 90 < sz
    · have Y2 := Lib.hid (show decide (90 < sz) = true by simp [h90])
      have NO := Lib.hid (show candS s = ([], false) by unfold candS cA; rw [if_neg (by rw [decide_eq_true_eq]; omega)])
      clear h10 hsz h90
      go_enter Tryd.func32, Tryd.ntmps32
      go_wp2_with (first
        | ((with_reducible refine wpList_at 8 rfl ?_); refine wpList_known4 rfl (.int .i64 (sz : Int)) _ (by exact by rw [← HSZ.out]; exact exec_lenS rfl rfl) ?_; try simp only [Act.put, List.setIfInBounds_toArray, List.set_cons_zero, List.set_cons_succ])
        | ((with_reducible refine wpList_at 9 rfl ?_); refine wpList_known4 rfl (.bool false) _ (by exact exec_lss3v (a := sz) (b := 10) (q := false) rfl rfl rfl Y1.out) ?_; try simp only [Act.put, List.setIfInBounds_toArray, List.set_cons_zero, List.set_cons_succ])
        | ((with_reducible refine wpList_at 12 rfl ?_); refine wpList_known4 rfl (.int .i64 (sz : Int)) _ (by exact by rw [← HSZ.out]; exact exec_lenS rfl rfl) ?_; try simp only [Act.put, List.setIfInBounds_toArray, List.set_cons_zero, List.set_cons_succ])
        | ((with_reducible refine wpList_at 13 rfl ?_); refine wpList_known4 rfl (.bool true) _ (by exact exec_gtr3v (a := sz) (b := 90) (q := true) rfl rfl rfl Y2.out) ?_; try simp only [Act.put, List.setIfInBounds_toArray, List.set_cons_zero, List.set_cons_succ]))
      go_ret2
      exact cand_none NO.out (Below.refl _ _)
    · have Y2 := Lib.hid (show decide (90 < sz) = false by simp; omega)
      have HS3 := Lib.hid (show 3 ≤ s.size by omega)
      by_cases hsb : s.extract 0 3 = SB
      · have Y3 := Lib.hid (show s.extract 0 3 = ⟨#[98, 99, 49]⟩ ↔ false = false from ⟨fun _ => rfl, fun _ => hsb⟩)
        have hcA : cA s = true := decide_eq_true ⟨by omega, by omega, hsb⟩
        have HCA := Lib.hid hcA
        obtain ⟨z6, hz6⟩ : ∃ z6, z6 = sz - 6 := ⟨_, rfl⟩
        obtain ⟨m, hm⟩ : ∃ m, m = sz - 9 := ⟨_, rfl⟩
        have Y4 := Lib.hid (show 6 ≤ sz ∧ sz < 9223372036854775808 ∧ sz - 6 = z6 by omega)
        have z6m : z6 = 3 + m := by omega
        have mb : m ≤ 81 := by omega
        have m1 : 1 ≤ m := by omega
        have HM := Lib.hid (show m = s.size - 9 by omega)
        have HM2 := Lib.hid (show m - 1 = s.size - 10 by omega)
        have HSM := Lib.hid (show s.size = 9 + m by omega)
        have PLC := Lib.hid (show ∀ (c : Nat) (W : World), c < 256 → Calls Tryd.prog 52 #[.string ⟨#[113, 112, 122, 114, 121, 57, 120, 56, 103, 102, 50, 116, 118, 100, 119, 48, 115, 51, 106, 110, 53, 52, 107, 104, 99, 101, 54, 109, 117, 97, 55, 108]⟩, .int .u8 (c : Int)] W fun e w' => e = .returned (.int .i64 (plZ SL c)) ∧ W = w' from fun c W h => place_any SL c (by decide) h W)
        have X0 := Lib.hid (show ∀ i, i < 0 → cX s i < 32 from fun i h => absurd h (by omega))
        have N0 := Lib.hid (show IOwn w.heap.size w none 0 0 0 (cX s) from vown_nothing w 3 1 w.heap.size _ (Nat.le_refl _))
        have B0 := Lib.hid (Below.refl w.heap.size w)
        clear h10 hsz h90 hsb hcA hz6 hm
        go_enter Tryd.func32, Tryd.ntmps32
        go_upto_region 5 with (first
          | ((with_reducible refine wpList_at 8 rfl ?_); refine wpList_known4 rfl (.int .i64 (sz : Int)) _ (by exact by rw [← HSZ.out]; exact exec_lenS rfl rfl) ?_; try simp only [Act.put, List.setIfInBounds_toArray, List.set_cons_zero, List.set_cons_succ])
          | ((with_reducible refine wpList_at 9 rfl ?_); refine wpList_known4 rfl (.bool false) _ (by exact exec_lss3v (a := sz) (b := 10) (q := false) rfl rfl rfl Y1.out) ?_; try simp only [Act.put, List.setIfInBounds_toArray, List.set_cons_zero, List.set_cons_succ])
          | ((with_reducible refine wpList_at 12 rfl ?_); refine wpList_known4 rfl (.int .i64 (sz : Int)) _ (by exact by rw [← HSZ.out]; exact exec_lenS rfl rfl) ?_; try simp only [Act.put, List.setIfInBounds_toArray, List.set_cons_zero, List.set_cons_succ])
          | ((with_reducible refine wpList_at 13 rfl ?_); refine wpList_known4 rfl (.bool false) _ (by exact exec_gtr3v (a := sz) (b := 90) (q := false) rfl rfl rfl Y2.out) ?_; try simp only [Act.put, List.setIfInBounds_toArray, List.set_cons_zero, List.set_cons_succ])
          | ((with_reducible refine wpList_at 17 rfl ?_); refine wpList_known4 rfl (.string (s.extract 0 3)) _ (by exact exec_take3 rfl rfl rfl HS3.out) ?_; try simp only [Act.put, List.setIfInBounds_toArray, List.set_cons_zero, List.set_cons_succ])
          | ((with_reducible refine wpList_at 18 rfl ?_); refine wpList_known4 rfl (.bool false) _ (by exact exec_neqS false rfl rfl rfl Y3.out) ?_; try simp only [Act.put, List.setIfInBounds_toArray, List.set_cons_zero, List.set_cons_succ]))
        go_loopg [4, 5] m (fun k l i wr => ∃ (j q c1 g1 : Nat) (p1 : Option Addr), j + k = m ∧ q = 3 + j ∧ i = .int .i64 (q : Int) ∧ l = .slice p1 j c1 ∧ Hid (∀ i, i < j → cX s i < 32) ∧ Hid (IOwn w.heap.size wr p1 g1 j c1 (cX s)) ∧ Hid (Below w.heap.size w wr))
        case atStart => exact ⟨0, 3, 0, 0, none, by omega, by omega, rfl, rfl, X0, N0, B0⟩
        case round =>
          clear X0 N0 B0
          obtain ⟨j, q, c1, g1, p1, hj, hq, rfl, rfl, XX, N, BB⟩ := hrel
          obtain ⟨kk, rfl⟩ : ∃ kk : Nat, kk = gk := ⟨_, rfl⟩
          obtain ⟨wo, rfl⟩ : ∃ wo : World, wo = wr := ⟨_, rfl⟩
          by_cases hlt : j < m
          · have Y5 := Lib.hid (show decide (q < z6) = true by simp; omega)
            obtain ⟨y, hy⟩ : ∃ y, y = byt s q := ⟨_, rfl⟩
            have yb : y < 256 := by rw [hy]; exact byt_lt _ _
            have HYB := Lib.hid yb
            have HIX := Lib.hid (show ∀ W : World, (Instr.index 9 (.string s) (.int .i64 (q : Int))).run Tryd.prog W = .ok (.int .u8 (y : Int)) W from fun W => by rw [hy]; exact run_ixS64 s q (by have := HSM.out; omega) W)
            have hcx : cX s j = ixL SL y := by unfold cX; rw [← hq, ← hy]
            by_cases hin : ixL SL y < 32
            · obtain ⟨xx, hxx⟩ : ∃ xx, xx = ixL SL y := ⟨_, rfl⟩
              have HPZ := Lib.hid (show plZ SL y = (xx : Int) by unfold plZ; rw [if_pos (show ixL SL y < SL.size from hin), hxx])
              have Y6 := Lib.hid (show decide (xx < 0) = false by simp)
              have X1 := Lib.hid (show ∀ i, i < j + 1 → cX s i < 32 from fun i hi => by
                rcases Nat.lt_or_ge i j with h | h
                · exact XX.out i h
                · obtain rfl : i = j := by omega
                  rw [hcx]; exact hin)
              have HCX := Lib.hid (show cX s j = xx by rw [hcx, hxx])
              clear hy yb hcx hin hxx XX
              go_wp2_with (first
                | ((with_reducible refine wpList_at 22 rfl ?_); refine wpList_known4 rfl (.int .i64 (sz : Int)) _ (by exact by rw [← HSZ.out]; exact exec_lenS rfl rfl) ?_; try simp only [Act.put, List.setIfInBounds_toArray, List.set_cons_zero, List.set_cons_succ])
                | ((with_reducible refine wpList_at 23 rfl ?_); refine wpList_known4 rfl (.int .i64 (z6 : Int)) _ (by exact exec_sub3v (a := sz) (b := 6) (r := z6) rfl rfl rfl Y4.out.1 Y4.out.2.1 Y4.out.2.2) ?_; try simp only [Act.put, List.setIfInBounds_toArray, List.set_cons_zero, List.set_cons_succ])
                | ((with_reducible refine wpList_at 24 rfl ?_); refine wpList_known4 rfl (.bool true) _ (by exact exec_lss3v (a := q) (b := z6) (q := true) rfl rfl rfl Y5.out) ?_; try simp only [Act.put, List.setIfInBounds_toArray, List.set_cons_zero, List.set_cons_succ])
                | ((with_reducible refine wpList_at 29 rfl ?_); refine wpList_known4 rfl (.int .u8 (y : Int)) _ (by exact exec_index rfl (HIX.out _)) ?_; try simp only [Act.put, List.setIfInBounds_toArray, List.set_cons_zero, List.set_cons_succ])
                | (go_at_call 52; ((with_reducible refine (PLC.out y _ HYB.out).mono ?_); rintro e w9 ⟨he9, rfl⟩); rw [HPZ.out] at he9; subst he9)
                | ((with_reducible refine wpList_at 32 rfl ?_); refine wpList_known4 rfl (.bool false) _ (by exact exec_lss3v (a := xx) (b := 0) (q := false) rfl rfl rfl Y6.out) ?_; try simp only [Act.put, List.setIfInBounds_toArray, List.set_cons_zero, List.set_cons_succ])
                | ((with_reducible refine wpList_at 35 rfl ?_); refine wpList_ibs1 rfl _ rfl (.int .i64 (xx : Int)) (v := xx) (by kernel_rfl) rfl ?_; intro p7 g7 w7 N7 hb7; have R7 := Lib.hid N7.out.row; replace N := Lib.hid (VOwn.below N.out hb7.out); replace BB := Lib.hid (BB.out.trans (hb7.out.mono BB.out.size)); clear hb7 N7; try simp only [Act.put, List.setIfInBounds_toArray, List.set_cons_zero, List.set_cons_succ])
                | ((with_reducible refine wpList_at 36 rfl ?_); refine wpList_iapp rfl (.tmp 33) (.tmp 35) rfl rfl N rfl R7 (by omega) ?_; clear N R7; intro p8 g8 c8 w8 N hb8; replace BB := Lib.hid (BB.out.trans hb8.out); clear hb8; try simp only [Act.put, List.setIfInBounds_toArray, List.set_cons_zero, List.set_cons_succ]))
              have N2 := Lib.hid (IOwn.to (y := cX s) N.out (fun i hi => by
                unfold cat
                by_cases h : i < j
                · rw [if_pos h]
                · rw [if_neg h, show i = j by omega]; exact HCX.out.symm))
              clear N HCX HPZ Y5 Y6
              go_roundg (m - (j + 1))
              case measure => omega
              case rel => exact ⟨j + 1, q + 1, c8, g8, p8, by omega, by omega, by go_num, rfl, X1, N2, BB⟩
            · have HPZ := Lib.hid (show plZ SL y = -1 by unfold plZ; rw [if_neg (show ¬ ixL SL y < SL.size from hin)])
              have NO := Lib.hid (show candS s = ([], false) by
                unfold candS
                rw [if_neg]
                rintro ⟨_, h⟩
                exact hin (by rw [← hcx]; exact h j (by have := HM.out; omega)))
              clear hy yb hcx hin XX N
              go_wp2_with (first
                | ((with_reducible refine wpList_at 22 rfl ?_); refine wpList_known4 rfl (.int .i64 (sz : Int)) _ (by exact by rw [← HSZ.out]; exact exec_lenS rfl rfl) ?_; try simp only [Act.put, List.setIfInBounds_toArray, List.set_cons_zero, List.set_cons_succ])
                | ((with_reducible refine wpList_at 23 rfl ?_); refine wpList_known4 rfl (.int .i64 (z6 : Int)) _ (by exact exec_sub3v (a := sz) (b := 6) (r := z6) rfl rfl rfl Y4.out.1 Y4.out.2.1 Y4.out.2.2) ?_; try simp only [Act.put, List.setIfInBounds_toArray, List.set_cons_zero, List.set_cons_succ])
                | ((with_reducible refine wpList_at 24 rfl ?_); refine wpList_known4 rfl (.bool true) _ (by exact exec_lss3v (a := q) (b := z6) (q := true) rfl rfl rfl Y5.out) ?_; try simp only [Act.put, List.setIfInBounds_toArray, List.set_cons_zero, List.set_cons_succ])
                | ((with_reducible refine wpList_at 29 rfl ?_); refine wpList_known4 rfl (.int .u8 (y : Int)) _ (by exact exec_index rfl (HIX.out _)) ?_; try simp only [Act.put, List.setIfInBounds_toArray, List.set_cons_zero, List.set_cons_succ])
                | (go_at_call 52; ((with_reducible refine (PLC.out y _ HYB.out).mono ?_); rintro e w9 ⟨he9, rfl⟩); rw [HPZ.out] at he9; subst he9))
              go_ret2
              exact cand_none NO.out BB.out
          · obtain rfl : j = m := by omega
            have Y5 := Lib.hid (show decide (q < z6) = false by simp; omega)
            obtain ⟨t1, ht1⟩ : ∃ t1, t1 = j - 1 := ⟨_, rfl⟩
            have hcB : cB s := fun i hi => XX.out i (by have := HM.out; omega)
            obtain ⟨p2, e2, R2x⟩ := irow_drop1 N.out.row m1
            have SLI := Lib.hid (fun W : World => (run_slI (w := W) (bounds_l (n := j) (l := 1) (c := c1) m1)).trans (by rw [e2]))
            rw [← ht1] at SLI R2x
            have R2 := Lib.hid R2x
            have X2 := Lib.hid (show ∀ i, i < t1 → cX s (1 + i) < 32 from fun i hi => XX.out (1 + i) (by omega))
            have YES := Lib.hid (show candS s = (bO (tl (fun i => cX s (1 + i)) t1), bK (tl (fun i => cX s (1 + i)) t1)) by
              unfold candS
              rw [if_pos ⟨HCA.out, hcB⟩, ← HM2.out, ht1])
            have t1b : t1 ≤ 1000 := by omega
            clear hcB e2 R2x XX N hlt ht1
            go_wp2_with (first
              | ((with_reducible refine wpList_at 22 rfl ?_); refine wpList_known4 rfl (.int .i64 (sz : Int)) _ (by exact by rw [← HSZ.out]; exact exec_lenS rfl rfl) ?_; try simp only [Act.put, List.setIfInBounds_toArray, List.set_cons_zero, List.set_cons_succ])
              | ((with_reducible refine wpList_at 23 rfl ?_); refine wpList_known4 rfl (.int .i64 (z6 : Int)) _ (by exact exec_sub3v (a := sz) (b := 6) (r := z6) rfl rfl rfl Y4.out.1 Y4.out.2.1 Y4.out.2.2) ?_; try simp only [Act.put, List.setIfInBounds_toArray, List.set_cons_zero, List.set_cons_succ])
              | ((with_reducible refine wpList_at 24 rfl ?_); refine wpList_known4 rfl (.bool false) _ (by exact exec_lss3v (a := q) (b := z6) (q := false) rfl rfl rfl Y5.out) ?_; try simp only [Act.put, List.setIfInBounds_toArray, List.set_cons_zero, List.set_cons_succ])
              | ((with_reducible refine wpList_at 38 rfl ?_); refine wpList_known4 rfl (.slice p2 t1 (c1 - 1)) _ (by exact exec_slL rfl rfl rfl (SLI.out _)) ?_; try simp only [Act.put, List.setIfInBounds_toArray, List.set_cons_zero, List.set_cons_succ])
              | (go_at_call 53; ((with_reducible refine (bytesof_any R2 t1b X2).mono ?_); intro e w9 h9); obtain ⟨p3, g3, c3, rfl, N3, hb⟩ := h9; have NN3 := Lib.hid N3; replace BB := Lib.hid (BB.out.trans (hb.mono BB.out.size)); clear hb N3))
            go_ret2
            rw [YES.out]
            exact ⟨p3, g3, c3, rfl, NN3.out.row, BB.out⟩
      · have Y3 := Lib.hid (show s.extract 0 3 = ⟨#[98, 99, 49]⟩ ↔ true = false from ⟨fun h => absurd h hsb, fun h => by cases h⟩)
        have NO := Lib.hid (show candS s = ([], false) by unfold candS cA; rw [if_neg (by rw [decide_eq_true_eq]; exact fun h => hsb h.1.2.2)])
        clear h10 hsz h90 hsb
        go_enter Tryd.func32, Tryd.ntmps32
        go_wp2_with (first
          | ((with_reducible refine wpList_at 8 rfl ?_); refine wpList_known4 rfl (.int .i64 (sz : Int)) _ (by exact by rw [← HSZ.out]; exact exec_lenS rfl rfl) ?_; try simp only [Act.put, List.setIfInBounds_toArray, List.set_cons_zero, List.set_cons_succ])
          | ((with_reducible refine wpList_at 9 rfl ?_); refine wpList_known4 rfl (.bool false) _ (by exact exec_lss3v (a := sz) (b := 10) (q := false) rfl rfl rfl Y1.out) ?_; try simp only [Act.put, List.setIfInBounds_toArray, List.set_cons_zero, List.set_cons_succ])
          | ((with_reducible refine wpList_at 12 rfl ?_); refine wpList_known4 rfl (.int .i64 (sz : Int)) _ (by exact by rw [← HSZ.out]; exact exec_lenS rfl rfl) ?_; try simp only [Act.put, List.setIfInBounds_toArray, List.set_cons_zero, List.set_cons_succ])
          | ((with_reducible refine wpList_at 13 rfl ?_); refine wpList_known4 rfl (.bool false) _ (by exact exec_gtr3v (a := sz) (b := 90) (q := false) rfl rfl rfl Y2.out) ?_; try simp only [Act.put, List.setIfInBounds_toArray, List.set_cons_zero, List.set_cons_succ])
          | ((with_reducible refine wpList_at 17 rfl ?_); refine wpList_known4 rfl (.string (s.extract 0 3)) _ (by exact exec_take3 rfl rfl rfl HS3.out) ?_; try simp only [Act.put, List.setIfInBounds_toArray, List.set_cons_zero, List.set_cons_succ])
          | ((with_reducible refine wpList_at 18 rfl ?_); refine wpList_known4 rfl (.bool true) _ (by exact exec_neqS true rfl rfl rfl Y3.out) ?_; try simp only [Act.put, List.setIfInBounds_toArray, List.set_cons_zero, List.set_cons_succ]))
        go_ret2
        exact cand_none NO.out (Below.refl _ _)
end Go.Proofs.YtghjgkgfpblijaaDoor
