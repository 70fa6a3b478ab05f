/- bytes.Equal and slices.Equal of any bytes; address.kindOf, strings.CutPrefix, address.numbers. -/
import Derived.Test.YtghjgkgfpblijaaDoorA6
import Derived.Test.YtghjgkgfpblijaaDoorPr
import Derived.Shelf.Lay
import Derived.Shelf.Small.Wraps
import Derived.Ground.NamesProg
set_option linter.unusedSimpArgs false
set_option linter.unusedVariables false
set_option maxRecDepth 100000
namespace Go.Proofs
open Go.Shelf
shelf_lay Lays.n103 Nm 103 at Tryd as YtghjgkgfpblijaaDoor.lays103
end Go.Proofs
namespace Go.Proofs.YtghjgkgfpblijaaDoor
open Go.ChangeShapes Go.WideShapes Go.RowKit Go.Lib Go.Sort

theorem wp_region_T {P : Program} {ops : Array Oper} {Q : Exit → Act → World → Prop} {Φ S : World → Prop} {w : World} {id : Nat} {a : Act} (hT : Hid (Φ w)) (hd : ∀ w, Φ w → Φ w.drew) (hS : ∀ w, Φ w → S w) (hm : P.follows .mixedOrders = true)
    (h : ∀ w', Hid (Φ w') → Hid (S w') → wpAnyH P .any ops Q S ops.size (Array.replicate ops.size false) a w') : (Code.region id ops true).wp P Q a w :=
  wp_region_held hm (h _ (hd _ hT.out) (hS _ (hd _ hT.out)))
theorem tl_eq {x y : Nat → Nat} {n m : Nat} : tl x n = tl y m ↔ n = m ∧ ∀ i, i < n → x i = y i := by
  constructor
  · intro h
    have hl : n = m := by have := congrArg List.length h; rwa [tl_length, tl_length] at this
    refine ⟨hl, fun i hi => ?_⟩
    rw [← lf_tl x hi, h, lf_tl y (by omega)]
  · rintro ⟨rfl, h⟩
    exact tl_congr h
theorem strX_tl {x y : Nat → Nat} (hx : ∀ i, x i < 256) (hy : ∀ i, y i < 256) {n m : Nat} : strX x n = strX y m ↔ tl x n = tl y m := by
  rw [tl_eq]
  constructor
  · intro h
    have hl : n = m := by have := congrArg ByteArray.size h; rwa [strX_size, strX_size] at this
    refine ⟨hl, fun i hi => ?_⟩
    rw [← strX_byt hx hi, h, strX_byt hy (by omega)]
  · rintro ⟨rfl, h⟩
    refine ba_ext (by rw [strX_size, strX_size]) fun i hi => ?_
    rw [strX_size] at hi
    rw [strX_byt hx hi, strX_byt hy hi, h i hi]
set_option maxHeartbeats 1000000 in
theorem equal_dec {w : World} {p p' : Option Addr} {g g' o o' n n' c c' : Nat} {x x' : Nat → Nat} (h : Hid (Row w p g o n c x)) (h' : Hid (Row w p' g' o' n' c' x')) (r : Bool) (hr : decide (tl x n = tl x' n') = r) :
    Calls Tryd.prog 13 #[.slice p n c, .slice p' n' c'] w fun e w' => e = .returned (.bool r) ∧ w = w' := by
  have e1 := Lib.hid (row_strX h.out)
  have e2 := Lib.hid (row_strX h'.out)
  have R := Lib.hid (show strX x n = strX x' n' ↔ r = true by rw [strX_tl h.out.byte h'.out.byte, ← hr]; simp)
  obtain ⟨s, hs⟩ : ∃ s, s = strX x n := ⟨_, rfl⟩
  obtain ⟨s2, hs2⟩ : ∃ s2, s2 = strX x' n' := ⟨_, rfl⟩
  rw [← hs] at e1 R
  rw [← hs2] at e2 R
  clear hs hs2 hr h h'
  go_enter Tryd.func13, Tryd.ntmps13
  go_wp2_with (first
    | ((with_reducible refine wpList_at 6 rfl ?_); refine wpList_known4 rfl (.string s) _ (by exact exec_cv rfl e1.out) ?_; try simp only [Act.put, List.setIfInBounds_toArray, List.set_cons_zero, List.set_cons_succ])
    | ((with_reducible refine wpList_at 8 rfl ?_); refine wpList_known4 rfl (.string s2) _ (by exact exec_cv rfl e2.out) ?_; try simp only [Act.put, List.setIfInBounds_toArray, List.set_cons_zero, List.set_cons_succ])
    | ((with_reducible refine wpList_at 9 rfl ?_); refine wpList_known4 rfl (.bool r) _ (by exact exec_eqS r rfl rfl rfl R.out) ?_; try simp only [Act.put, List.setIfInBounds_toArray, List.set_cons_zero, List.set_cons_succ]))
  go_ret
  exact ⟨rfl, rfl⟩
theorem exec_neq8v {o : Oper} {ev : Operand → Value} {W : World} {x y : Operand} {a b : Nat} {q : Bool} (ho : o.op = .binOp .neq 5 x y 5) (hx : ev x = .int .u8 (a : Int)) (hy : ev y = .int .u8 (b : Int)) (hq : decide (a ≠ b) = q) : (execOp ev o).run Tryd.prog W = .ok (.value (.bool q)) W := by
  subst hq
  unfold execOp
  by_cases h : a = b
  · subst h
    simp [ho, hx, hy, go_sem, Tryd.underlying5]
  · have h2 : ¬ ((a : Int) = (b : Int)) := by omega
    simp [ho, hx, hy, go_sem, Tryd.underlying5, h, h2]
theorem exec_neq3v {o : Oper} {ev : Operand → Value} {W : World} {x y : Operand} {a b : Nat} {q : Bool} (ho : o.op = .binOp .neq 3 x y 3) (hx : ev x = .int .i64 (a : Int)) (hy : ev y = .int .i64 (b : Int)) (hq : decide (a ≠ b) = q) : (execOp ev o).run Tryd.prog W = .ok (.value (.bool q)) W := by
  subst hq
  unfold execOp
  by_cases h : a = b
  · subst h
    simp [ho, hx, hy, go_sem, Tryd.underlying3]
  · have h2 : ¬ ((a : Int) = (b : Int)) := by omega
    simp [ho, hx, hy, go_sem, Tryd.underlying3, h, h2]
set_option maxHeartbeats 8000000 in
theorem eqb_any {w : World} {p p2 : Option Addr} {g g2 o o2 n n2 c c2 : Nat} {x x2 : Nat → Nat} (N : Hid (Row w p g o n c x)) (N2 : Hid (Row w p2 g2 o2 n2 c2 x2)) (hn : n ≤ 1000000) (hn2 : n2 ≤ 1000000) (r : Bool) (hr : decide (tl x n = tl x2 n2) = r) :
    Calls Tryd.prog 50 #[.slice p n c, .slice p2 n2 c2] w fun e w' => e = .returned (.bool r) ∧ Below w.heap.size w w' := by
  have HB0 := Lib.hid (Below.refl w.heap.size w)
  by_cases hl : n = n2
  · subst hl
    have Y := Lib.hid (show decide (n ≠ n) = false by simp)
    have HR := Lib.hid hr
    have P0 := Lib.hid (show ∀ i, i < 0 → x i = x2 i from fun i h => absurd h (by omega))
    clear hr
    go_enter Tryd.func50, Tryd.ntmps50
    go_wp2_with (first
      | ((with_reducible refine wpList_at 10 rfl ?_); refine wpList_known4 rfl (.bool false) _ (by exact exec_neq3v (a := n) (b := n) (q := false) rfl rfl rfl Y.out) ?_; try simp only [Act.put, List.setIfInBounds_toArray, List.set_cons_zero, List.set_cons_succ]))
    go_loopg [13] n (fun k i wr => ∃ j : Nat, j + k = n ∧ i = .int .i64 (j : Int) ∧ Hid (∀ i, i < j → x i = x2 i) ∧ Hid (Below w.heap.size w wr))
    case atStart => exact ⟨0, by omega, rfl, P0, HB0⟩
    case round =>
      clear HB0 P0
      obtain ⟨j, hj, rfl, P, HB⟩ := hrel
      obtain ⟨kk, rfl⟩ : ∃ kk : Nat, kk = gk := ⟨_, rfl⟩
      by_cases hlt : j < n
      · have HLT := Lib.hid hlt
        obtain rfl := N.out.head (by omega)
        obtain rfl := N2.out.head (by omega)
        obtain ⟨y, hy⟩ : ∃ y, y = x j := ⟨_, rfl⟩
        obtain ⟨z, hz⟩ : ∃ z, z = x2 j := ⟨_, rfl⟩
        have CL := Lib.hid (show wr.cell? ⟨g, o + j * 1, none⟩ = some (.int .u8 (y : Int)) ∧ wr.cell? ⟨g2, o2 + j * 1, none⟩ = some (.int .u8 (z : Int)) by
          have h1 := (N.out.below HB.out).cell j hlt
          have h2 := (N2.out.below HB.out).cell j hlt
          rw [Nat.mul_one, hy, hz]
          exact ⟨h1, h2⟩)
        have HY := Lib.hid hy
        have HZ := Lib.hid hz
        clear hy hz
        by_cases hyz : y = z
        · have YZ := Lib.hid (show decide (y ≠ z) = false by simp [hyz])
          have P2 := Lib.hid (show ∀ i, i < j + 1 → x i = x2 i from fun i hi => by
            rcases Nat.lt_or_ge i j with h | h
            · exact P.out i h
            · obtain rfl : i = j := by omega
              rw [← HY.out, ← HZ.out]; exact hyz)
          clear hyz P HY HZ
          go_upto_region 6 with fail
          refine wp_region_T (Φ := fun X => Below wr.heap.size wr X) (S := fun X => X.cell? ⟨g, o + j * 1, none⟩ = some (.int .u8 (y : Int)) ∧ X.cell? ⟨g2, o2 + j * 1, none⟩ = some (.int .u8 (z : Int))) (Lib.hid (Below.refl _ _)) (fun _ h => h.drew) (fun X h => ⟨(h.cell (cell_lt CL.out.1)).trans CL.out.1, (h.cell (cell_lt CL.out.2)).trans CL.out.2⟩) (by kernel_rfl) ?_
          intro wx TT S0
          clear CL
          refine hm_run 0 16 (.slice (some ⟨g, o, none⟩) n c) rfl rfl (by kernel_rfl) (by kernel_rfl) (by kernel_rfl) (fun _ _ _ h => h) rfl (fun _ _ => rfl) S0.out ?_
          try simp only [Act.put, List.getElem_toArray, List.getElem_cons_succ, List.getElem_cons_zero, List.setIfInBounds_toArray, List.set_cons_zero, List.set_cons_succ]
          refine hm_run 1 17 (.int .i64 (j : Int)) rfl rfl (by kernel_rfl) (by kernel_rfl) (by kernel_rfl) (fun _ _ _ h => h) rfl (fun _ _ => rfl) S0.out ?_
          try simp only [Act.put, List.getElem_toArray, List.getElem_cons_succ, List.getElem_cons_zero, List.setIfInBounds_toArray, List.set_cons_zero, List.set_cons_succ]
          refine hm_run 2 18 (.pointer (some ⟨g, o + j * 1, none⟩)) rfl rfl (by kernel_rfl) (by kernel_rfl) (by kernel_rfl) (fun _ _ _ h => h) rfl (fun W _ => exec_ix rfl (run_ix Tryd.underlying22 (by kernel_rfl) HLT.out rfl W)) S0.out ?_
          try simp only [Act.put, List.getElem_toArray, List.getElem_cons_succ, List.getElem_cons_zero, List.setIfInBounds_toArray, List.set_cons_zero, List.set_cons_succ]
          refine hm_run 3 19 (.int .u8 (y : Int)) rfl rfl (by kernel_rfl) (by kernel_rfl) (by kernel_rfl) (fun _ _ _ h => h) rfl (fun W hW => exec_load rfl (run_load_one Tryd.underlying5 rfl hW.1)) S0.out ?_
          try simp only [Act.put, List.getElem_toArray, List.getElem_cons_succ, List.getElem_cons_zero, List.setIfInBounds_toArray, List.set_cons_zero, List.set_cons_succ]
          refine hm_run 4 20 (.slice (some ⟨g2, o2, none⟩) n c2) rfl rfl (by kernel_rfl) (by kernel_rfl) (by kernel_rfl) (fun _ _ _ h => h) rfl (fun _ _ => rfl) S0.out ?_
          try simp only [Act.put, List.getElem_toArray, List.getElem_cons_succ, List.getElem_cons_zero, List.setIfInBounds_toArray, List.set_cons_zero, List.set_cons_succ]
          refine hm_run 5 21 (.int .i64 (j : Int)) rfl rfl (by kernel_rfl) (by kernel_rfl) (by kernel_rfl) (fun _ _ _ h => h) rfl (fun _ _ => rfl) S0.out ?_
          try simp only [Act.put, List.getElem_toArray, List.getElem_cons_succ, List.getElem_cons_zero, List.setIfInBounds_toArray, List.set_cons_zero, List.set_cons_succ]
          refine hm_run 6 22 (.pointer (some ⟨g2, o2 + j * 1, none⟩)) rfl rfl (by kernel_rfl) (by kernel_rfl) (by kernel_rfl) (fun _ _ _ h => h) rfl (fun W _ => exec_ix rfl (run_ix Tryd.underlying22 (by kernel_rfl) HLT.out rfl W)) S0.out ?_
          try simp only [Act.put, List.getElem_toArray, List.getElem_cons_succ, List.getElem_cons_zero, List.setIfInBounds_toArray, List.set_cons_zero, List.set_cons_succ]
          refine hm_run 7 23 (.int .u8 (z : Int)) rfl rfl (by kernel_rfl) (by kernel_rfl) (by kernel_rfl) (fun _ _ _ h => h) rfl (fun W hW => exec_load rfl (run_load_one Tryd.underlying5 rfl hW.2)) S0.out ?_
          try simp only [Act.put, List.getElem_toArray, List.getElem_cons_succ, List.getElem_cons_zero, List.setIfInBounds_toArray, List.set_cons_zero, List.set_cons_succ]
          refine hm_run 8 24 (.bool false) rfl rfl (by kernel_rfl) (by kernel_rfl) (by kernel_rfl) (fun _ _ _ h => h) rfl (fun _ _ => exec_neq8v (a := y) (b := z) (q := false) rfl rfl rfl YZ.out) S0.out ?_
          try simp only [Act.put, List.getElem_toArray, List.getElem_cons_succ, List.getElem_cons_zero, List.setIfInBounds_toArray, List.set_cons_zero, List.set_cons_succ]
          refine wpAnyH_done (by kernel_rfl) ?_ _
          go_wp2
          go_roundg (n - (j + 1))
          case measure => omega
          case rel => exact ⟨j + 1, by omega, by go_num, P2, Lib.hid (HB.out.trans (TT.out.mono HB.out.size))⟩
        · have YZ := Lib.hid (show decide (y ≠ z) = true by simp [hyz])
          have RF := Lib.hid (show r = false by
            rw [← HR.out, decide_eq_false_iff_not, tl_eq]
            intro h
            exact hyz (by rw [HY.out, HZ.out]; exact h.2 j hlt))
          clear hyz P HY HZ HR
          go_upto_region 6 with fail
          refine wp_region_T (Φ := fun X => Below wr.heap.size wr X) (S := fun X => X.cell? ⟨g, o + j * 1, none⟩ = some (.int .u8 (y : Int)) ∧ X.cell? ⟨g2, o2 + j * 1, none⟩ = some (.int .u8 (z : Int))) (Lib.hid (Below.refl _ _)) (fun _ h => h.drew) (fun X h => ⟨(h.cell (cell_lt CL.out.1)).trans CL.out.1, (h.cell (cell_lt CL.out.2)).trans CL.out.2⟩) (by kernel_rfl) ?_
          intro wx TT S0
          clear CL
          refine hm_run 0 16 (.slice (some ⟨g, o, none⟩) n c) rfl rfl (by kernel_rfl) (by kernel_rfl) (by kernel_rfl) (fun _ _ _ h => h) rfl (fun _ _ => rfl) S0.out ?_
          try simp only [Act.put, List.getElem_toArray, List.getElem_cons_succ, List.getElem_cons_zero, List.setIfInBounds_toArray, List.set_cons_zero, List.set_cons_succ]
          refine hm_run 1 17 (.int .i64 (j : Int)) rfl rfl (by kernel_rfl) (by kernel_rfl) (by kernel_rfl) (fun _ _ _ h => h) rfl (fun _ _ => rfl) S0.out ?_
          try simp only [Act.put, List.getElem_toArray, List.getElem_cons_succ, List.getElem_cons_zero, List.setIfInBounds_toArray, List.set_cons_zero, List.set_cons_succ]
          refine hm_run 2 18 (.pointer (some ⟨g, o + j * 1, none⟩)) rfl rfl (by kernel_rfl) (by kernel_rfl) (by kernel_rfl) (fun _ _ _ h => h) rfl (fun W _ => exec_ix rfl (run_ix Tryd.underlying22 (by kernel_rfl) HLT.out rfl W)) S0.out ?_
          try simp only [Act.put, List.getElem_toArray, List.getElem_cons_succ, List.getElem_cons_zero, List.setIfInBounds_toArray, List.set_cons_zero, List.set_cons_succ]
          refine hm_run 3 19 (.int .u8 (y : Int)) rfl rfl (by kernel_rfl) (by kernel_rfl) (by kernel_rfl) (fun _ _ _ h => h) rfl (fun W hW => exec_load rfl (run_load_one Tryd.underlying5 rfl hW.1)) S0.out ?_
          try simp only [Act.put, List.getElem_toArray, List.getElem_cons_succ, List.getElem_cons_zero, List.setIfInBounds_toArray, List.set_cons_zero, List.set_cons_succ]
          refine hm_run 4 20 (.slice (some ⟨g2, o2, none⟩) n c2) rfl rfl (by kernel_rfl) (by kernel_rfl) (by kernel_rfl) (fun _ _ _ h => h) rfl (fun _ _ => rfl) S0.out ?_
          try simp only [Act.put, List.getElem_toArray, List.getElem_cons_succ, List.getElem_cons_zero, List.setIfInBounds_toArray, List.set_cons_zero, List.set_cons_succ]
          refine hm_run 5 21 (.int .i64 (j : Int)) rfl rfl (by kernel_rfl) (by kernel_rfl) (by kernel_rfl) (fun _ _ _ h => h) rfl (fun _ _ => rfl) S0.out ?_
          try simp only [Act.put, List.getElem_toArray, List.getElem_cons_succ, List.getElem_cons_zero, List.setIfInBounds_toArray, List.set_cons_zero, List.set_cons_succ]
          refine hm_run 6 22 (.pointer (some ⟨g2, o2 + j * 1, none⟩)) rfl rfl (by kernel_rfl) (by kernel_rfl) (by kernel_rfl) (fun _ _ _ h => h) rfl (fun W _ => exec_ix rfl (run_ix Tryd.underlying22 (by kernel_rfl) HLT.out rfl W)) S0.out ?_
          try simp only [Act.put, List.getElem_toArray, List.getElem_cons_succ, List.getElem_cons_zero, List.setIfInBounds_toArray, List.set_cons_zero, List.set_cons_succ]
          refine hm_run 7 23 (.int .u8 (z : Int)) rfl rfl (by kernel_rfl) (by kernel_rfl) (by kernel_rfl) (fun _ _ _ h => h) rfl (fun W hW => exec_load rfl (run_load_one Tryd.underlying5 rfl hW.2)) S0.out ?_
          try simp only [Act.put, List.getElem_toArray, List.getElem_cons_succ, List.getElem_cons_zero, List.setIfInBounds_toArray, List.set_cons_zero, List.set_cons_succ]
          refine hm_run 8 24 (.bool true) rfl rfl (by kernel_rfl) (by kernel_rfl) (by kernel_rfl) (fun _ _ _ h => h) rfl (fun _ _ => exec_neq8v (a := y) (b := z) (q := true) rfl rfl rfl YZ.out) S0.out ?_
          try simp only [Act.put, List.getElem_toArray, List.getElem_cons_succ, List.getElem_cons_zero, List.setIfInBounds_toArray, List.set_cons_zero, List.set_cons_succ]
          refine wpAnyH_done (by kernel_rfl) ?_ _
          go_wp2
          go_ret
          exact ⟨by rw [RF.out]; rfl, HB.out.trans (TT.out.mono HB.out.size)⟩
      · obtain rfl : j = n := by omega
        have RT := Lib.hid (show r = true by
          rw [← HR.out, decide_eq_true_iff, tl_eq]
          exact ⟨rfl, P.out⟩)
        clear P HR
        go_wp2
        go_ret
        exact ⟨by rw [RT.out]; rfl, HB.out⟩
  · have Y := Lib.hid (show decide (n ≠ n2) = true by simp [hl])
    have RF := Lib.hid (show r = false by
      rw [← hr, decide_eq_false_iff_not, tl_eq]
      exact fun h => hl h.1)
    clear hr hl
    go_enter Tryd.func50, Tryd.ntmps50
    go_wp2_with (first
      | ((with_reducible refine wpList_at 10 rfl ?_); refine wpList_known4 rfl (.bool true) _ (by exact exec_neq3v (a := n) (b := n2) (q := true) rfl rfl rfl Y.out) ?_; try simp only [Act.put, List.setIfInBounds_toArray, List.set_cons_zero, List.set_cons_succ]))
    go_ret
    exact ⟨by rw [RF.out]; rfl, HB0.out⟩
/-- The kind of a version and so many bytes. -/
def kOf (v n : Nat) : Int := if v = 0 ∧ n = 20 then 3 else if v = 0 ∧ n = 32 then 4 else if v = 1 ∧ n = 32 then 5 else 0
theorem kindof_any (v n : Nat) (w : World) : Calls Tryd.prog 51 #[.int .u8 (v : Int), .int .i64 (n : Int)] w fun e w' => e = .returned (.int .i64 (kOf v n)) ∧ w = w' := by
  have d0 : v = 0 ∨ v = 1 ∨ (((v : Int) == 0) = false ∧ ((v : Int) == 1) = false ∧ v ≠ 0 ∧ v ≠ 1) := by
    by_cases h : v = 0
    · exact .inl h
    · by_cases h1 : v = 1
      · exact .inr (.inl h1)
      · exact .inr (.inr ⟨by simpa using (show ¬ ((v : Int) = 0) by omega), by simpa using (show ¬ ((v : Int) = 1) by omega), h, h1⟩)
  have d1 : n = 20 ∨ n = 32 ∨ (((n : Int) == 20) = false ∧ ((n : Int) == 32) = false ∧ n ≠ 20 ∧ n ≠ 32) := by
    by_cases h : n = 20
    · exact .inl h
    · by_cases h1 : n = 32
      · exact .inr (.inl h1)
      · exact .inr (.inr ⟨by simpa using (show ¬ ((n : Int) = 20) by omega), by simpa using (show ¬ ((n : Int) = 32) by omega), h, h1⟩)
  rcases d0 with rfl | rfl | ⟨v0, v1, v2, v3⟩ <;> rcases d1 with rfl | rfl | ⟨n0, n1, n2, n3⟩
  · have KK := Lib.hid (show kOf 0 20 = 3 by simp [kOf])
    go_enter Tryd.func51, Tryd.ntmps51
    go_wp2
    go_ret
    exact ⟨by rw [KK.out]; rfl, rfl⟩
  · have KK := Lib.hid (show kOf 0 32 = 4 by simp [kOf])
    go_enter Tryd.func51, Tryd.ntmps51
    go_wp2
    go_ret
    exact ⟨by rw [KK.out]; rfl, rfl⟩
  · have KK := Lib.hid (show kOf 0 n = 0 by simp [kOf, n2, n3])
    clear n2 n3
    go_enter Tryd.func51, Tryd.ntmps51
    go_wp2
    go_ret
    exact ⟨by rw [KK.out]; rfl, rfl⟩
  · have KK := Lib.hid (show kOf 1 20 = 0 by simp [kOf])
    go_enter Tryd.func51, Tryd.ntmps51
    go_wp2
    go_ret
    exact ⟨by rw [KK.out]; rfl, rfl⟩
  · have KK := Lib.hid (show kOf 1 32 = 5 by simp [kOf])
    go_enter Tryd.func51, Tryd.ntmps51
    go_wp2
    go_ret
    exact ⟨by rw [KK.out]; rfl, rfl⟩
  · have KK := Lib.hid (show kOf 1 n = 0 by simp [kOf, n2, n3])
    clear n2 n3
    go_enter Tryd.func51, Tryd.ntmps51
    go_wp2
    go_ret
    exact ⟨by rw [KK.out]; rfl, rfl⟩
  · have KK := Lib.hid (show kOf v 20 = 0 by simp [kOf, v2, v3])
    clear v2 v3
    go_enter Tryd.func51, Tryd.ntmps51
    go_wp2
    go_ret
    exact ⟨by rw [KK.out]; rfl, rfl⟩
  · have KK := Lib.hid (show kOf v 32 = 0 by simp [kOf, v2, v3])
    clear v2 v3
    go_enter Tryd.func51, Tryd.ntmps51
    go_wp2
    go_ret
    exact ⟨by rw [KK.out]; rfl, rfl⟩
  · have KK := Lib.hid (show kOf v n = 0 by simp [kOf, v2, v3, n2, n3])
    clear v2 v3
    clear n2 n3
    go_enter Tryd.func51, Tryd.ntmps51
    go_wp2
    go_ret
    exact ⟨by rw [KK.out]; rfl, rfl⟩
/-- A text behind a beginning. -/
def hasP (s P : ByteArray) : Bool := Lib.hasPrefix s.data.toList P.data.toList
def rstP (s P : ByteArray) : ByteArray := ⟨(Lib.trimPrefix s.data.toList P.data.toList).toArray⟩
theorem hasP_some {s P : ByteArray} (h : hasP s P = true) : s = P ++ rstP s P := by
  have h1 : P.data.toList <+: s.data.toList := by
    unfold hasP Lib.hasPrefix at h
    exact List.isPrefixOf_iff_prefix.1 h
  obtain ⟨r, hr⟩ := h1
  have h2 : rstP s P = ⟨r.toArray⟩ := by
    unfold rstP Lib.trimPrefix
    have h3 : Lib.hasPrefix s.data.toList P.data.toList = true := h
    rw [if_pos h3, ← hr, List.drop_left]
  rw [h2]
  apply ByteArray.ext
  rw [ByteArray.data_append]
  apply Array.toList_inj.1
  rw [Array.toList_append, ← hr]
theorem cutp_any (s P : ByteArray) (w : World) : Calls Tryd.prog 63 #[.string s, .string P] w fun e w' => e = .returned (.tuple #[.string (rstP s P), .bool (hasP s P)]) ∧ w' = w := Any.strings_CutPrefix lays103 s P w
end Go.Proofs.YtghjgkgfpblijaaDoor
