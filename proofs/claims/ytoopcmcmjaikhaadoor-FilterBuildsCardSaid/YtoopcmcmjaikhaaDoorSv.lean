/- The sort of uint64, what its walks share; insertion sort. -/
import Derived.Test.YtoopcmcmjaikhaaDoorFm0
import Derived.Sort.AssemblyPlain
set_option linter.unusedSimpArgs false
set_option linter.unusedVariables false
set_option maxRecDepth 100000
namespace Go.Proofs.YtoopcmcmjaikhaaDoor
open Go.RowKit Go.Lib

/-- Numbers as cells. -/
def dv (d : Array Nat) : Nat → Value := fun i => .int .u64 ((d[i]! : Nat) : Int)
def ltN (x y : Nat) : Bool := decide (x < y)
theorem swo_ltN : Go.Sort.SWO ltN := ⟨fun x => by simp [ltN], fun x y z h1 h2 => by simp [ltN] at *; omega, fun x y z h1 h2 => by simp [ltN] at *; omega⟩
/-- A row of numbers of the call's own. -/
abbrev NRow (B : Nat) (w : World) (g n c : Nat) (d : Array Nat) : Prop := VOwn 59 1 B w (some ⟨g, 0, none⟩) g n c (dv d)
theorem cell_dv {B g n c i : Nat} {w : World} {d : Array Nat} (N : Hid (NRow B w g n c d)) (hi : i < n) : w.cell? ⟨g, 0 + i * 1, none⟩ = some (.int .u64 ((d[i]! : Nat) : Int)) := by
  have h := N.out.row.cell i (by omega)
  rw [Nat.mul_one]
  exact h
theorem vput {T B g n c i : Nat} {w : World} {V : Nat → Value} {v : Value} (N : VOwn T 1 B w (some ⟨g, 0, none⟩) g n c V) (hi : i < n) (h1 : v.oneCell' = true) : VOwn T 1 B (w.setCell ⟨g, i, none⟩ v) (some ⟨g, 0, none⟩) g n c (fun k => if k = i then v else V k) ∧ Below B w (w.setCell ⟨g, i, none⟩ v) ∧ w.frozen? ⟨g, i, none⟩ = false := by
  obtain ⟨hl, h | ⟨g', cap, cur, hv', hb, hg, hn, hc, hs, ht⟩⟩ := N.own
  · cases h.1
  · cases hv'
    rw [Nat.mul_one] at hs ht
    have H := (Holds.start hg).set (i := i) (v := v) rfl
    have hb2 : Below B w (w.setCell ⟨g, i, none⟩ v) := ⟨H.only.os, H.only.tape, H.only.output, H.only.size, fun k hk => H.only.block k (by have := N.low; omega) (by omega)⟩
    refine ⟨⟨⟨by rw [vs_length], .inr ⟨g, c, _, rfl, hb, H.here, hn, hc, by rw [Array.size_setIfInBounds, hs, Nat.mul_one], ?_⟩⟩, .inr rfl, fun k hk => ?_, Nat.le_trans N.low hb2.size⟩, hb2, free_of_here hg i⟩
    · rw [Nat.mul_one]
      apply List.ext_getElem?
      intro k
      have h2 : (cur.toList.take n)[k]? = (vs V n)[k]? := by rw [ht]
      rcases Nat.lt_or_ge k n with q | q
      · rw [List.getElem?_take_of_lt q] at h2 ⊢
        rw [vs_at _ _ _ q] at h2 ⊢
        rw [Array.toList_setIfInBounds, List.getElem?_set]
        by_cases e : i = k
        · subst e
          rw [if_pos rfl, if_pos (by rw [Array.length_toList]; omega), if_pos rfl]
        · rw [if_neg e, if_neg (fun h => e h.symm), h2]
      · rw [List.getElem?_eq_none (by rw [List.length_take]; omega), List.getElem?_eq_none (by rw [vs_length]; exact q)]
    · show (if k = i then v else V k).oneCell' = true
      split
      · exact h1
      · exact N.one k hk
theorem nput {B g n c i v : Nat} {w : World} {d : Array Nat} (N : NRow B w g n c d) (hi : i < n) (hd : d.size = n) : NRow B (w.setCell ⟨g, i, none⟩ (.int .u64 (v : Int))) g n c (d.setIfInBounds i v) ∧ Below B w (w.setCell ⟨g, i, none⟩ (.int .u64 (v : Int))) ∧ w.frozen? ⟨g, i, none⟩ = false := by
  obtain ⟨h1, h2, h3⟩ := vput N hi (v := .int .u64 (v : Int)) rfl
  refine ⟨h1.to fun k hk => ?_, h2, h3⟩
  unfold dv
  by_cases e : k = i
  · subst e
    rw [if_pos rfl, Go.Sort.getElem!_set_same _ _ _ (by omega)]
  · rw [if_neg e, Go.Sort.getElem!_set_other _ _ _ _ e]
section
variable {Q : Exit → Act → World → Prop} {op : Oper} {a : Act} {w : World} {K : Act → World → Prop}
theorem mo_vput {B g n c i v : Nat} {d : Array Nat} (x y : Operand) (ho : op.op = .store 59 x y) (N : Hid (NRow B w g n c d ∧ d.size = n)) (hx : a.eval x = .pointer (some ⟨g, 0 + i * 1, none⟩)) (hy : a.eval y = .int .u64 (v : Int)) (hi : i < n)
    (k : ∀ w', Hid (NRow B w' g n c (d.setIfInBounds i v) ∧ (d.setIfInBounds i v).size = n) → Hid (Below B w w') → K (a.put op.dst undef) w') : op.wp Tryd.prog a w K Q := by
  obtain ⟨O, hb, hf⟩ := nput (v := v) N.out.1 hi N.out.2
  rw [Nat.zero_add, Nat.mul_one] at hx
  have hc := N.out.1.row.cell i (by omega)
  rw [Nat.zero_add] at hc
  unfold Oper.wp execOp
  simp only [ho, hx, hy, Sem.run_bind, Sem.run_pure, run_store_one (P := Tryd.prog) (ty := 59) (v := .int .u64 (v : Int)) (by kernel_rfl) rfl rfl hc hf, Result.andThen_ok]
  exact k _ (Lib.hid ⟨O, by rw [Array.size_setIfInBounds]; exact N.out.2⟩) (Lib.hid hb)
end
theorem cell_dn {B g n c i : Nat} {w : World} {d : Array Nat} (N : Hid (NRow B w g n c d ∧ d.size = n)) (hi : i < n) : w.cell? ⟨g, 0 + i * 1, none⟩ = some (.int .u64 ((d[i]! : Nat) : Int)) := cell_dv (Lib.hid N.out.1) hi
section
variable {P : Program} {ops : Array Oper} {Q : Exit → Act → World → Prop} {md : Region.Mode} {S : World → Prop} {fuel : Nat} {listed : Array Bool} {a : Act} {w : World}
/-- An operation whose guard is off. -/
theorem hm_off {oi : Oper} (i t : Nat) (hd : oi.dst = some t) (hi : ops[i]? = some oi) (hs : Region.noSelect ops = true) (hf : Region.free md ops listed i = true) (hr : (Region.ready md ops listed).contains i = true)
    (hQ : ∀ c a w, Q (.panic c) (a.put oi.dst undef) w → Q (.panic c) a w) (hw : Region.wanted oi (yielded ops a.tmps) = false) (hS : S w)
    (h : wpAnyH P md ops Q S fuel (listed.setIfInBounds i true) (a.put (some t) undef) w) : wpAnyH P md ops Q S (fuel + 1) listed a w :=
  wpAnyH_take hi hs hf hr hQ (.inr ⟨hw, rfl⟩) hS (by rw [hd]; exact h)
end
theorem exec_gtrN {o : Oper} {ev : Operand → Value} {W : World} {x y : Operand} {a b : Int} {q : Bool} (ho : o.op = .binOp .gtr 3 x y 3) (hx : ev x = .int .i64 a) (hy : ev y = .int .i64 b) (hq : decide (b < a) = q) : (execOp ev o).run Tryd.prog W = .ok (.value (.bool q)) W := by
  subst hq
  unfold execOp
  by_cases h : b < a
  · simp [ho, hx, hy, go_sem, Tryd.underlying3, h]
  · simp [ho, hx, hy, go_sem, Tryd.underlying3, h]
theorem exec_geqN {o : Oper} {ev : Operand → Value} {W : World} {x y : Operand} {a b : Int} {q : Bool} (ho : o.op = .binOp .geq 3 x y 3) (hx : ev x = .int .i64 a) (hy : ev y = .int .i64 b) (hq : decide (b ≤ a) = q) : (execOp ev o).run Tryd.prog W = .ok (.value (.bool q)) W := by
  subst hq
  unfold execOp
  by_cases h : b ≤ a
  · simp [ho, hx, hy, go_sem, Tryd.underlying3, h]
  · simp [ho, hx, hy, go_sem, Tryd.underlying3, h]
theorem exec_leqN {o : Oper} {ev : Operand → Value} {W : World} {x y : Operand} {a b : Int} {q : Bool} (ho : o.op = .binOp .leq 3 x y 3) (hx : ev x = .int .i64 a) (hy : ev y = .int .i64 b) (hq : decide (a ≤ b) = q) : (execOp ev o).run Tryd.prog W = .ok (.value (.bool q)) W := by
  subst hq
  unfold execOp
  by_cases h : a ≤ b
  · simp [ho, hx, hy, go_sem, Tryd.underlying3, h]
  · simp [ho, hx, hy, go_sem, Tryd.underlying3, h]
theorem exec_mul {o : Oper} {ev : Operand → Value} {W : World} {x y : Operand} {a b r : Int} (ho : o.op = .binOp .mul 3 x y 3) (hx : ev x = .int .i64 a) (hy : ev y = .int .i64 b) (hr : IntKind.i64.wrap (a * b) = r) : (execOp ev o).run Tryd.prog W = .ok (.value (.int .i64 r)) W := by
  subst hr
  unfold execOp
  simp [ho, hx, hy, go_sem, Tryd.underlying3]
theorem insInner_pos (a : Nat) {j : Nat} (d : Array Nat) (h : 0 < j) : Go.Sort.insInner ltN a j d = if j > a && ltN d[j]! d[j - 1]! then Go.Sort.insInner ltN a (j - 1) (Go.Sort.swp d j (j - 1)) else d := by
  obtain ⟨k, rfl⟩ : ∃ k, j = k + 1 := ⟨j - 1, by omega⟩
  rw [Go.Sort.insInner]
  rfl
theorem insInner_off (a : Nat) {j : Nat} (d : Array Nat) (h : ¬ a < j) : Go.Sort.insInner ltN a j d = d := by
  cases j with
  | zero => rw [Go.Sort.insInner]
  | succ k => rw [Go.Sort.insInner, if_neg (by simp; omega)]
set_option maxHeartbeats 16000000 in
theorem ins_any {w : World} {B g n c a b : Nat} {d : Array Nat} (N : Hid (NRow B w g n c d ∧ d.size = n)) (hab : a ≤ b) (hbn : b ≤ n) (hn : n ≤ 20000) : Calls Tryd.prog 99 #[.slice (some ⟨g, 0, none⟩) n c, .int .i64 (a : Int), .int .i64 (b : Int)] w fun e w' => e = .returned (.tuple #[]) ∧ (NRow B w' g n c (Go.Sort.insertionSort ltN d a b) ∧ (Go.Sort.insertionSort ltN d a b).size = n) ∧ Below B w w' := by
  obtain ⟨R, hR⟩ : ∃ R, R = Go.Sort.insertionSort ltN d a b := ⟨_, rfl⟩
  have OUT0 := Lib.hid (show Go.Sort.insOuter ltN a b (a + 1) d = R from hR.symm)
  have BI := Lib.hid (show a ≤ b ∧ b ≤ n ∧ n ≤ 20000 from ⟨hab, hbn, hn⟩)
  have HB := Lib.hid (Below.refl B w)
  rw [← hR]
  clear hab hbn hn hR
  go_enter Tryd.func99, Tryd.ntmps99
  go_wp2_with ((with_reducible refine wpList_at 9 rfl ?_); refine wpList_kn rfl (.int .i64 ((a + 1 : Nat) : Int)) (by exact exec_add rfl rfl rfl (by have := BI.out; rw [IntKind.wrap_i64]; omega)) ?_)
  go_loopg [6] (b - (a + 1)) (fun k s6 wr => ∃ (i : Nat) (d1 : Array Nat), a + 1 ≤ i ∧ b - i = k ∧ s6 = .int .i64 (i : Int) ∧ Hid (NRow B wr g n c d1 ∧ d1.size = n) ∧ Hid (Go.Sort.insOuter ltN a b i d1 = R) ∧ Hid (Below B w wr))
  case atStart => exact ⟨a + 1, d, Nat.le_refl _, rfl, rfl, N, OUT0, HB⟩
  case round =>
    clear N OUT0 HB
    obtain ⟨i, d1, hai, hk, rfl, N, OUT, HB⟩ := hrel
    obtain ⟨D, hD⟩ : ∃ D, D = wr := ⟨_, rfl⟩
    subst hD
    by_cases hib : i < b
    · have LT := Lib.hid (show decide ((i : Int) < (b : Int)) = true from decide_eq_true (by omega))
      have KI := Lib.hid hk
      have HI := Lib.hid (And.intro hai hib)
      have OUT2 := Lib.hid (show Go.Sort.insOuter ltN a b (i + 1) (Go.Sort.insInner ltN a i d1) = R by have h := OUT.out; rw [Go.Sort.insOuter, if_pos hib] at h; exact h)
      obtain ⟨R2, hR2⟩ : ∃ R2, R2 = Go.Sort.insInner ltN a i d1 := ⟨_, rfl⟩
      rw [← hR2] at OUT2
      have IN := Lib.hid hR2.symm
      clear hib hk hai hR2 OUT
      go_upto_region 4 with ((with_reducible refine wpList_at 12 rfl ?_); refine wpList_kn rfl (.bool true) (by exact exec_lssi rfl rfl rfl LT.out) ?_)
      go_loopg [7] i (fun k s7 wr => ∃ (d2 : Array Nat), a ≤ k ∧ k ≤ i ∧ s7 = .int .i64 (k : Int) ∧ Hid (NRow B wr g n c d2 ∧ d2.size = n) ∧ Hid (Go.Sort.insInner ltN a k d2 = R2) ∧ Hid (Below B w wr))
      case atStart => exact ⟨d1, by have := HI.out; omega, Nat.le_refl _, rfl, N, IN, HB⟩
      case round =>
        clear N IN HB
        obtain ⟨d2, haj, hji, rfl, N, IN, HB⟩ := hrel
        obtain ⟨j, rfl⟩ : ∃ j : Nat, j = gk := ⟨_, rfl⟩
        have BND := Lib.hid (show a ≤ j ∧ j ≤ i ∧ a + 1 ≤ i ∧ i < b ∧ b ≤ n ∧ n ≤ 20000 by have := HI.out; have := BI.out; omega)
        clear haj hji
        by_cases hja : a < j
        · have GT := Lib.hid (show decide ((a : Int) < (j : Int)) = true from decide_eq_true (by omega))
          replace BND := Lib.hid (And.intro hja BND.out)
          by_cases hl : d2[j]! < d2[(j) - 1]!
          · have LQ := Lib.hid (decide_eq_true hl)
            have INX := Lib.hid (show Go.Sort.insInner ltN a (j - 1) (Go.Sort.swp d2 j (j - 1)) = R2 by
              have h := IN.out
              rw [insInner_pos _ _ (by omega), if_pos (by simp [ltN, hja, hl])] at h
              exact h)
            clear IN hja hl
            go_upto_region 4 with fail
            refine wp_region_T (Φ := fun X => (NRow B X g n c d2 ∧ d2.size = n) ∧ Below B w X) (S := fun _ => True) (Lib.hid ⟨N.out, HB.out⟩) (fun X h => ⟨⟨h.1.1.below ((Below.refl _ _).drew), h.1.2⟩, h.2.drew⟩) (fun _ _ => trivial) (by kernel_rfl) ?_
            clear N HB
            intro wx TT S0
            have N := Lib.hid TT.out.1
            have HB := Lib.hid TT.out.2
            clear TT S0
            refine hm_run 0 16 (.int .i64 ((j : Nat) : Int)) rfl rfl (by kernel_rfl) (by kernel_rfl) (by kernel_rfl) (fun _ _ _ h => h) rfl (fun _ _ => rfl) trivial ?_
            try simp only [Act.put, lqA, lqB, lqC, lqD, lqE, lqF]
            refine hm_run 1 17 (.int .i64 ((a : Nat) : Int)) rfl rfl (by kernel_rfl) (by kernel_rfl) (by kernel_rfl) (fun _ _ _ h => h) rfl (fun _ _ => rfl) trivial ?_
            try simp only [Act.put, lqA, lqB, lqC, lqD, lqE, lqF]
            refine hm_run 2 18 (.bool true) rfl rfl (by kernel_rfl) (by kernel_rfl) (by kernel_rfl) (fun _ _ _ h => h) rfl (fun _ _ => exec_gtrN rfl rfl rfl GT.out) trivial ?_
            try simp only [Act.put, lqA, lqB, lqC, lqD, lqE, lqF]
            refine hm_run 3 19 (.bool true) rfl rfl (by kernel_rfl) (by kernel_rfl) (by kernel_rfl) (fun _ _ _ h => h) rfl (fun _ _ => rfl) trivial ?_
            try simp only [Act.put, lqA, lqB, lqC, lqD, lqE, lqF]
            refine hm_run 4 20 (.slice (some ⟨g, 0, none⟩) n c) rfl rfl (by kernel_rfl) (by kernel_rfl) (by kernel_rfl) (fun _ _ _ h => h) rfl (fun _ _ => rfl) trivial ?_
            try simp only [Act.put, lqA, lqB, lqC, lqD, lqE, lqF]
            refine hm_run 5 21 (.int .i64 ((j : Nat) : Int)) rfl rfl (by kernel_rfl) (by kernel_rfl) (by kernel_rfl) (fun _ _ _ h => h) rfl (fun _ _ => rfl) trivial ?_
            try simp only [Act.put, lqA, lqB, lqC, lqD, lqE, lqF]
            refine hm_run 6 22 (.pointer (some ⟨g, 0 + (j) * 1, none⟩)) rfl rfl (by kernel_rfl) (by kernel_rfl) (by kernel_rfl) (fun _ _ _ h => h) rfl (fun W _ => exec_ix rfl (run_ix (k := 1) (j := j) Tryd.underlying54 (by kernel_rfl) (by have := BND.out; omega) rfl W)) trivial ?_
            try simp only [Act.put, lqA, lqB, lqC, lqD, lqE, lqF]
            refine hm_run 8 24 (.slice (some ⟨g, 0, none⟩) n c) rfl rfl (by kernel_rfl) (by kernel_rfl) (by kernel_rfl) (fun _ _ _ h => h) rfl (fun _ _ => rfl) trivial ?_
            try simp only [Act.put, lqA, lqB, lqC, lqD, lqE, lqF]
            refine hm_run 9 25 (.int .i64 ((j : Nat) : Int)) rfl rfl (by kernel_rfl) (by kernel_rfl) (by kernel_rfl) (fun _ _ _ h => h) rfl (fun _ _ => rfl) trivial ?_
            try simp only [Act.put, lqA, lqB, lqC, lqD, lqE, lqF]
            refine hm_run 10 26 (.int .i64 (((j) - 1 : Nat) : Int)) rfl rfl (by kernel_rfl) (by kernel_rfl) (by kernel_rfl) (fun _ _ _ h => h) rfl (fun _ _ => exec_sub rfl rfl rfl (by have := BND.out; rw [IntKind.wrap_i64]; omega)) trivial ?_
            try simp only [Act.put, lqA, lqB, lqC, lqD, lqE, lqF]
            refine hm_run 11 27 (.pointer (some ⟨g, 0 + ((j) - 1) * 1, none⟩)) rfl rfl (by kernel_rfl) (by kernel_rfl) (by kernel_rfl) (fun _ _ _ h => h) rfl (fun W _ => exec_ix rfl (run_ix (k := 1) (j := (j) - 1) Tryd.underlying54 (by kernel_rfl) (by have := BND.out; omega) rfl W)) trivial ?_
            try simp only [Act.put, lqA, lqB, lqC, lqD, lqE, lqF]
            refine hm_two (i := 7) (j := 12) (by kernel_rfl) ?_ ?_
            · refine hm_step 7 rfl (by kernel_rfl) fun K hK => ?_
              try simp only [Act.put, lqA, lqB, lqC, lqD, lqE, lqF]
              refine mo_known (.int .u64 ((d2[j]! : Nat) : Int)) _ (exec_load rfl (run_load_one Tryd.underlying59 rfl (cell_dn N (by have := BND.out; omega)))) ?_
              refine hK _ _ trivial ?_
              clear hK K
              try simp only [Act.put, lqA, lqB, lqC, lqD, lqE, lqF]
              refine hm_one (i := 12) (by kernel_rfl) ?_
              refine hm_step 12 rfl (by kernel_rfl) fun K hK => ?_
              try simp only [Act.put, lqA, lqB, lqC, lqD, lqE, lqF]
              refine mo_known (.int .u64 ((d2[(j) - 1]! : Nat) : Int)) _ (exec_load rfl (run_load_one Tryd.underlying59 rfl (cell_dn N (by have := BND.out; omega)))) ?_
              refine hK _ _ trivial ?_
              clear hK K
              try simp only [Act.put, lqA, lqB, lqC, lqD, lqE, lqF]
              refine hm_one (i := 13) (by kernel_rfl) ?_
              refine hm_step 13 rfl (by kernel_rfl) fun K hK => ?_
              try simp only [Act.put, lqA, lqB, lqC, lqD, lqE, lqF]
              go_simp
              go_at_call 58
              refine (less_any _ _ _).mono ?_
              rintro e w7 ⟨rfl, rfl⟩
              rw [LQ.out]
              refine hK _ _ trivial ?_
              clear hK K
              try simp only [Act.put, lqA, lqB, lqC, lqD, lqE, lqF]
              refine hm_run 14 30 (.bool true) rfl rfl (by kernel_rfl) (by kernel_rfl) (by kernel_rfl) (fun _ _ _ h => h) rfl (fun _ _ => rfl) trivial ?_
              try simp only [Act.put, lqA, lqB, lqC, lqD, lqE, lqF]
              refine wpAnyH_done (by kernel_rfl) ?_ _
              go_upto_region 6 with fail
              refine wp_region_T (Φ := fun X => (NRow B X g n c d2 ∧ d2.size = n) ∧ Below B w X) (S := fun _ => True) (Lib.hid ⟨N.out, HB.out⟩) (fun X h => ⟨⟨h.1.1.below ((Below.refl _ _).drew), h.1.2⟩, h.2.drew⟩) (fun _ _ => trivial) (by kernel_rfl) ?_
              clear N HB
              intro wx TT S0
              have N := Lib.hid TT.out.1
              have HB := Lib.hid TT.out.2
              clear TT S0
              refine hm_run 0 33 (.slice (some ⟨g, 0, none⟩) n c) rfl rfl (by kernel_rfl) (by kernel_rfl) (by kernel_rfl) (fun _ _ _ h => h) rfl (fun _ _ => rfl) trivial ?_
              try simp only [Act.put, lqA, lqB, lqC, lqD, lqE, lqF]
              refine hm_run 1 34 (.int .i64 ((j : Nat) : Int)) rfl rfl (by kernel_rfl) (by kernel_rfl) (by kernel_rfl) (fun _ _ _ h => h) rfl (fun _ _ => rfl) trivial ?_
              try simp only [Act.put, lqA, lqB, lqC, lqD, lqE, lqF]
              refine hm_run 2 35 (.slice (some ⟨g, 0, none⟩) n c) rfl rfl (by kernel_rfl) (by kernel_rfl) (by kernel_rfl) (fun _ _ _ h => h) rfl (fun _ _ => rfl) trivial ?_
              try simp only [Act.put, lqA, lqB, lqC, lqD, lqE, lqF]
              refine hm_run 3 36 (.int .i64 ((j : Nat) : Int)) rfl rfl (by kernel_rfl) (by kernel_rfl) (by kernel_rfl) (fun _ _ _ h => h) rfl (fun _ _ => rfl) trivial ?_
              try simp only [Act.put, lqA, lqB, lqC, lqD, lqE, lqF]
              refine hm_run 4 37 (.int .i64 (((j) - 1 : Nat) : Int)) rfl rfl (by kernel_rfl) (by kernel_rfl) (by kernel_rfl) (fun _ _ _ h => h) rfl (fun _ _ => exec_sub rfl rfl rfl (by have := BND.out; rw [IntKind.wrap_i64]; omega)) trivial ?_
              try simp only [Act.put, lqA, lqB, lqC, lqD, lqE, lqF]
              refine hm_run 5 38 (.slice (some ⟨g, 0, none⟩) n c) rfl rfl (by kernel_rfl) (by kernel_rfl) (by kernel_rfl) (fun _ _ _ h => h) rfl (fun _ _ => rfl) trivial ?_
              try simp only [Act.put, lqA, lqB, lqC, lqD, lqE, lqF]
              refine hm_run 6 39 (.int .i64 ((j : Nat) : Int)) rfl rfl (by kernel_rfl) (by kernel_rfl) (by kernel_rfl) (fun _ _ _ h => h) rfl (fun _ _ => rfl) trivial ?_
              try simp only [Act.put, lqA, lqB, lqC, lqD, lqE, lqF]
              refine hm_run 7 40 (.int .i64 (((j) - 1 : Nat) : Int)) rfl rfl (by kernel_rfl) (by kernel_rfl) (by kernel_rfl) (fun _ _ _ h => h) rfl (fun _ _ => exec_sub rfl rfl rfl (by have := BND.out; rw [IntKind.wrap_i64]; omega)) trivial ?_
              try simp only [Act.put, lqA, lqB, lqC, lqD, lqE, lqF]
              refine hm_run 8 41 (.pointer (some ⟨g, 0 + ((j) - 1) * 1, none⟩)) rfl rfl (by kernel_rfl) (by kernel_rfl) (by kernel_rfl) (fun _ _ _ h => h) rfl (fun W _ => exec_ix rfl (run_ix (k := 1) (j := (j) - 1) Tryd.underlying54 (by kernel_rfl) (by have := BND.out; omega) rfl W)) trivial ?_
              try simp only [Act.put, lqA, lqB, lqC, lqD, lqE, lqF]
              refine hm_run 10 43 (.slice (some ⟨g, 0, none⟩) n c) rfl rfl (by kernel_rfl) (by kernel_rfl) (by kernel_rfl) (fun _ _ _ h => h) rfl (fun _ _ => rfl) trivial ?_
              try simp only [Act.put, lqA, lqB, lqC, lqD, lqE, lqF]
              refine hm_run 11 44 (.int .i64 ((j : Nat) : Int)) rfl rfl (by kernel_rfl) (by kernel_rfl) (by kernel_rfl) (fun _ _ _ h => h) rfl (fun _ _ => rfl) trivial ?_
              try simp only [Act.put, lqA, lqB, lqC, lqD, lqE, lqF]
              refine hm_run 12 45 (.pointer (some ⟨g, 0 + (j) * 1, none⟩)) rfl rfl (by kernel_rfl) (by kernel_rfl) (by kernel_rfl) (fun _ _ _ h => h) rfl (fun W _ => exec_ix rfl (run_ix (k := 1) (j := j) Tryd.underlying54 (by kernel_rfl) (by have := BND.out; omega) rfl W)) trivial ?_
              try simp only [Act.put, lqA, lqB, lqC, lqD, lqE, lqF]
              refine hm_two (i := 9) (j := 13) (by kernel_rfl) ?_ ?_
              · refine hm_step 9 rfl (by kernel_rfl) fun K hK => ?_
                try simp only [Act.put, lqA, lqB, lqC, lqD, lqE, lqF]
                refine mo_known (.int .u64 ((d2[(j) - 1]! : Nat) : Int)) _ (exec_load rfl (run_load_one Tryd.underlying59 rfl (cell_dn N (by have := BND.out; omega)))) ?_
                refine hK _ _ trivial ?_
                clear hK K
                try simp only [Act.put, lqA, lqB, lqC, lqD, lqE, lqF]
                refine hm_one (i := 13) (by kernel_rfl) ?_
                refine hm_step 13 rfl (by kernel_rfl) fun K hK => ?_
                try simp only [Act.put, lqA, lqB, lqC, lqD, lqE, lqF]
                refine mo_known (.int .u64 ((d2[j]! : Nat) : Int)) _ (exec_load rfl (run_load_one Tryd.underlying59 rfl (cell_dn N (by have := BND.out; omega)))) ?_
                refine hK _ _ trivial ?_
                clear hK K
                try simp only [Act.put, lqA, lqB, lqC, lqD, lqE, lqF]
                refine hm_run 14 47 (.pointer (some ⟨g, 0 + (j) * 1, none⟩)) rfl rfl (by kernel_rfl) (by kernel_rfl) (by kernel_rfl) (fun _ _ _ h => h) rfl (fun W _ => exec_ix rfl (run_ix (k := 1) (j := j) Tryd.underlying54 (by kernel_rfl) (by have := BND.out; omega) rfl W)) trivial ?_
                try simp only [Act.put, lqA, lqB, lqC, lqD, lqE, lqF]
                refine hm_one (i := 15) (by kernel_rfl) ?_
                refine hm_step 15 rfl (by kernel_rfl) fun K hK => ?_
                try simp only [Act.put, lqA, lqB, lqC, lqD, lqE, lqF]
                refine mo_vput (i := j) (v := d2[(j) - 1]!) (.tmp 47) (.tmp 42) rfl N rfl rfl (by have := BND.out; omega) ?_
                clear N
                intro w9 N hb9
                replace HB := Lib.hid (HB.out.trans hb9.out)
                clear hb9
                refine hK _ _ trivial ?_
                clear hK K
                try simp only [Act.put, lqA, lqB, lqC, lqD, lqE, lqF]
                refine hm_run 16 48 (.pointer (some ⟨g, 0 + ((j) - 1) * 1, none⟩)) rfl rfl (by kernel_rfl) (by kernel_rfl) (by kernel_rfl) (fun _ _ _ h => h) rfl (fun W _ => exec_ix rfl (run_ix (k := 1) (j := (j) - 1) Tryd.underlying54 (by kernel_rfl) (by have := BND.out; omega) rfl W)) trivial ?_
                try simp only [Act.put, lqA, lqB, lqC, lqD, lqE, lqF]
                refine hm_one (i := 17) (by kernel_rfl) ?_
                refine hm_step 17 rfl (by kernel_rfl) fun K hK => ?_
                try simp only [Act.put, lqA, lqB, lqC, lqD, lqE, lqF]
                refine mo_vput (i := (j) - 1) (v := d2[j]!) (.tmp 48) (.tmp 46) rfl N rfl rfl (by have := BND.out; omega) ?_
                clear N
                intro w9 N hb9
                replace HB := Lib.hid (HB.out.trans hb9.out)
                clear hb9
                refine hK _ _ trivial ?_
                clear hK K
                try simp only [Act.put, lqA, lqB, lqC, lqD, lqE, lqF]
                refine wpAnyH_done (by kernel_rfl) ?_ _
                go_wp2_with ((with_reducible refine wpList_at 32 rfl ?_); refine wpList_kn rfl (.int .i64 ((j - 1 : Nat) : Int)) (by exact exec_sub rfl rfl rfl (by have := BND.out; rw [IntKind.wrap_i64]; omega)) ?_)
                go_roundg (j - 1)
                case measure => have := BND.out; omega
                case rel => exact ⟨((d2.setIfInBounds (j) d2[(j) - 1]!).setIfInBounds ((j) - 1) d2[j]!), by have := BND.out; omega, by have := BND.out; omega, rfl, N, INX, HB⟩
              · refine hm_step 13 rfl (by kernel_rfl) fun K hK => ?_
                try simp only [Act.put, lqA, lqB, lqC, lqD, lqE, lqF]
                refine mo_known (.int .u64 ((d2[j]! : Nat) : Int)) _ (exec_load rfl (run_load_one Tryd.underlying59 rfl (cell_dn N (by have := BND.out; omega)))) ?_
                refine hK _ _ trivial ?_
                clear hK K
                try simp only [Act.put, lqA, lqB, lqC, lqD, lqE, lqF]
                refine hm_one (i := 9) (by kernel_rfl) ?_
                refine hm_step 9 rfl (by kernel_rfl) fun K hK => ?_
                try simp only [Act.put, lqA, lqB, lqC, lqD, lqE, lqF]
                refine mo_known (.int .u64 ((d2[(j) - 1]! : Nat) : Int)) _ (exec_load rfl (run_load_one Tryd.underlying59 rfl (cell_dn N (by have := BND.out; omega)))) ?_
                refine hK _ _ trivial ?_
                clear hK K
                try simp only [Act.put, lqA, lqB, lqC, lqD, lqE, lqF]
                refine hm_run 14 47 (.pointer (some ⟨g, 0 + (j) * 1, none⟩)) rfl rfl (by kernel_rfl) (by kernel_rfl) (by kernel_rfl) (fun _ _ _ h => h) rfl (fun W _ => exec_ix rfl (run_ix (k := 1) (j := j) Tryd.underlying54 (by kernel_rfl) (by have := BND.out; omega) rfl W)) trivial ?_
                try simp only [Act.put, lqA, lqB, lqC, lqD, lqE, lqF]
                refine hm_one (i := 15) (by kernel_rfl) ?_
                refine hm_step 15 rfl (by kernel_rfl) fun K hK => ?_
                try simp only [Act.put, lqA, lqB, lqC, lqD, lqE, lqF]
                refine mo_vput (i := j) (v := d2[(j) - 1]!) (.tmp 47) (.tmp 42) rfl N rfl rfl (by have := BND.out; omega) ?_
                clear N
                intro w9 N hb9
                replace HB := Lib.hid (HB.out.trans hb9.out)
                clear hb9
                refine hK _ _ trivial ?_
                clear hK K
                try simp only [Act.put, lqA, lqB, lqC, lqD, lqE, lqF]
                refine hm_run 16 48 (.pointer (some ⟨g, 0 + ((j) - 1) * 1, none⟩)) rfl rfl (by kernel_rfl) (by kernel_rfl) (by kernel_rfl) (fun _ _ _ h => h) rfl (fun W _ => exec_ix rfl (run_ix (k := 1) (j := (j) - 1) Tryd.underlying54 (by kernel_rfl) (by have := BND.out; omega) rfl W)) trivial ?_
                try simp only [Act.put, lqA, lqB, lqC, lqD, lqE, lqF]
                refine hm_one (i := 17) (by kernel_rfl) ?_
                refine hm_step 17 rfl (by kernel_rfl) fun K hK => ?_
                try simp only [Act.put, lqA, lqB, lqC, lqD, lqE, lqF]
                refine mo_vput (i := (j) - 1) (v := d2[j]!) (.tmp 48) (.tmp 46) rfl N rfl rfl (by have := BND.out; omega) ?_
                clear N
                intro w9 N hb9
                replace HB := Lib.hid (HB.out.trans hb9.out)
                clear hb9
                refine hK _ _ trivial ?_
                clear hK K
                try simp only [Act.put, lqA, lqB, lqC, lqD, lqE, lqF]
                refine wpAnyH_done (by kernel_rfl) ?_ _
                go_wp2_with ((with_reducible refine wpList_at 32 rfl ?_); refine wpList_kn rfl (.int .i64 ((j - 1 : Nat) : Int)) (by exact exec_sub rfl rfl rfl (by have := BND.out; rw [IntKind.wrap_i64]; omega)) ?_)
                go_roundg (j - 1)
                case measure => have := BND.out; omega
                case rel => exact ⟨((d2.setIfInBounds (j) d2[(j) - 1]!).setIfInBounds ((j) - 1) d2[j]!), by have := BND.out; omega, by have := BND.out; omega, rfl, N, INX, HB⟩
            · refine hm_step 12 rfl (by kernel_rfl) fun K hK => ?_
              try simp only [Act.put, lqA, lqB, lqC, lqD, lqE, lqF]
              refine mo_known (.int .u64 ((d2[(j) - 1]! : Nat) : Int)) _ (exec_load rfl (run_load_one Tryd.underlying59 rfl (cell_dn N (by have := BND.out; omega)))) ?_
              refine hK _ _ trivial ?_
              clear hK K
              try simp only [Act.put, lqA, lqB, lqC, lqD, lqE, lqF]
              refine hm_one (i := 7) (by kernel_rfl) ?_
              refine hm_step 7 rfl (by kernel_rfl) fun K hK => ?_
              try simp only [Act.put, lqA, lqB, lqC, lqD, lqE, lqF]
              refine mo_known (.int .u64 ((d2[j]! : Nat) : Int)) _ (exec_load rfl (run_load_one Tryd.underlying59 rfl (cell_dn N (by have := BND.out; omega)))) ?_
              refine hK _ _ trivial ?_
              clear hK K
              try simp only [Act.put, lqA, lqB, lqC, lqD, lqE, lqF]
              refine hm_one (i := 13) (by kernel_rfl) ?_
              refine hm_step 13 rfl (by kernel_rfl) fun K hK => ?_
              try simp only [Act.put, lqA, lqB, lqC, lqD, lqE, lqF]
              go_simp
              go_at_call 58
              refine (less_any _ _ _).mono ?_
              rintro e w7 ⟨rfl, rfl⟩
              rw [LQ.out]
              refine hK _ _ trivial ?_
              clear hK K
              try simp only [Act.put, lqA, lqB, lqC, lqD, lqE, lqF]
              refine hm_run 14 30 (.bool true) rfl rfl (by kernel_rfl) (by kernel_rfl) (by kernel_rfl) (fun _ _ _ h => h) rfl (fun _ _ => rfl) trivial ?_
              try simp only [Act.put, lqA, lqB, lqC, lqD, lqE, lqF]
              refine wpAnyH_done (by kernel_rfl) ?_ _
              go_upto_region 6 with fail
              refine wp_region_T (Φ := fun X => (NRow B X g n c d2 ∧ d2.size = n) ∧ Below B w X) (S := fun _ => True) (Lib.hid ⟨N.out, HB.out⟩) (fun X h => ⟨⟨h.1.1.below ((Below.refl _ _).drew), h.1.2⟩, h.2.drew⟩) (fun _ _ => trivial) (by kernel_rfl) ?_
              clear N HB
              intro wx TT S0
              have N := Lib.hid TT.out.1
              have HB := Lib.hid TT.out.2
              clear TT S0
              refine hm_run 0 33 (.slice (some ⟨g, 0, none⟩) n c) rfl rfl (by kernel_rfl) (by kernel_rfl) (by kernel_rfl) (fun _ _ _ h => h) rfl (fun _ _ => rfl) trivial ?_
              try simp only [Act.put, lqA, lqB, lqC, lqD, lqE, lqF]
              refine hm_run 1 34 (.int .i64 ((j : Nat) : Int)) rfl rfl (by kernel_rfl) (by kernel_rfl) (by kernel_rfl) (fun _ _ _ h => h) rfl (fun _ _ => rfl) trivial ?_
              try simp only [Act.put, lqA, lqB, lqC, lqD, lqE, lqF]
              refine hm_run 2 35 (.slice (some ⟨g, 0, none⟩) n c) rfl rfl (by kernel_rfl) (by kernel_rfl) (by kernel_rfl) (fun _ _ _ h => h) rfl (fun _ _ => rfl) trivial ?_
              try simp only [Act.put, lqA, lqB, lqC, lqD, lqE, lqF]
              refine hm_run 3 36 (.int .i64 ((j : Nat) : Int)) rfl rfl (by kernel_rfl) (by kernel_rfl) (by kernel_rfl) (fun _ _ _ h => h) rfl (fun _ _ => rfl) trivial ?_
              try simp only [Act.put, lqA, lqB, lqC, lqD, lqE, lqF]
              refine hm_run 4 37 (.int .i64 (((j) - 1 : Nat) : Int)) rfl rfl (by kernel_rfl) (by kernel_rfl) (by kernel_rfl) (fun _ _ _ h => h) rfl (fun _ _ => exec_sub rfl rfl rfl (by have := BND.out; rw [IntKind.wrap_i64]; omega)) trivial ?_
              try simp only [Act.put, lqA, lqB, lqC, lqD, lqE, lqF]
              refine hm_run 5 38 (.slice (some ⟨g, 0, none⟩) n c) rfl rfl (by kernel_rfl) (by kernel_rfl) (by kernel_rfl) (fun _ _ _ h => h) rfl (fun _ _ => rfl) trivial ?_
              try simp only [Act.put, lqA, lqB, lqC, lqD, lqE, lqF]
              refine hm_run 6 39 (.int .i64 ((j : Nat) : Int)) rfl rfl (by kernel_rfl) (by kernel_rfl) (by kernel_rfl) (fun _ _ _ h => h) rfl (fun _ _ => rfl) trivial ?_
              try simp only [Act.put, lqA, lqB, lqC, lqD, lqE, lqF]
              refine hm_run 7 40 (.int .i64 (((j) - 1 : Nat) : Int)) rfl rfl (by kernel_rfl) (by kernel_rfl) (by kernel_rfl) (fun _ _ _ h => h) rfl (fun _ _ => exec_sub rfl rfl rfl (by have := BND.out; rw [IntKind.wrap_i64]; omega)) trivial ?_
              try simp only [Act.put, lqA, lqB, lqC, lqD, lqE, lqF]
              refine hm_run 8 41 (.pointer (some ⟨g, 0 + ((j) - 1) * 1, none⟩)) rfl rfl (by kernel_rfl) (by kernel_rfl) (by kernel_rfl) (fun _ _ _ h => h) rfl (fun W _ => exec_ix rfl (run_ix (k := 1) (j := (j) - 1) Tryd.underlying54 (by kernel_rfl) (by have := BND.out; omega) rfl W)) trivial ?_
              try simp only [Act.put, lqA, lqB, lqC, lqD, lqE, lqF]
              refine hm_run 10 43 (.slice (some ⟨g, 0, none⟩) n c) rfl rfl (by kernel_rfl) (by kernel_rfl) (by kernel_rfl) (fun _ _ _ h => h) rfl (fun _ _ => rfl) trivial ?_
              try simp only [Act.put, lqA, lqB, lqC, lqD, lqE, lqF]
              refine hm_run 11 44 (.int .i64 ((j : Nat) : Int)) rfl rfl (by kernel_rfl) (by kernel_rfl) (by kernel_rfl) (fun _ _ _ h => h) rfl (fun _ _ => rfl) trivial ?_
              try simp only [Act.put, lqA, lqB, lqC, lqD, lqE, lqF]
              refine hm_run 12 45 (.pointer (some ⟨g, 0 + (j) * 1, none⟩)) rfl rfl (by kernel_rfl) (by kernel_rfl) (by kernel_rfl) (fun _ _ _ h => h) rfl (fun W _ => exec_ix rfl (run_ix (k := 1) (j := j) Tryd.underlying54 (by kernel_rfl) (by have := BND.out; omega) rfl W)) trivial ?_
              try simp only [Act.put, lqA, lqB, lqC, lqD, lqE, lqF]
              refine hm_two (i := 9) (j := 13) (by kernel_rfl) ?_ ?_
              · refine hm_step 9 rfl (by kernel_rfl) fun K hK => ?_
                try simp only [Act.put, lqA, lqB, lqC, lqD, lqE, lqF]
                refine mo_known (.int .u64 ((d2[(j) - 1]! : Nat) : Int)) _ (exec_load rfl (run_load_one Tryd.underlying59 rfl (cell_dn N (by have := BND.out; omega)))) ?_
                refine hK _ _ trivial ?_
                clear hK K
                try simp only [Act.put, lqA, lqB, lqC, lqD, lqE, lqF]
                refine hm_one (i := 13) (by kernel_rfl) ?_
                refine hm_step 13 rfl (by kernel_rfl) fun K hK => ?_
                try simp only [Act.put, lqA, lqB, lqC, lqD, lqE, lqF]
                refine mo_known (.int .u64 ((d2[j]! : Nat) : Int)) _ (exec_load rfl (run_load_one Tryd.underlying59 rfl (cell_dn N (by have := BND.out; omega)))) ?_
                refine hK _ _ trivial ?_
                clear hK K
                try simp only [Act.put, lqA, lqB, lqC, lqD, lqE, lqF]
                refine hm_run 14 47 (.pointer (some ⟨g, 0 + (j) * 1, none⟩)) rfl rfl (by kernel_rfl) (by kernel_rfl) (by kernel_rfl) (fun _ _ _ h => h) rfl (fun W _ => exec_ix rfl (run_ix (k := 1) (j := j) Tryd.underlying54 (by kernel_rfl) (by have := BND.out; omega) rfl W)) trivial ?_
                try simp only [Act.put, lqA, lqB, lqC, lqD, lqE, lqF]
                refine hm_one (i := 15) (by kernel_rfl) ?_
                refine hm_step 15 rfl (by kernel_rfl) fun K hK => ?_
                try simp only [Act.put, lqA, lqB, lqC, lqD, lqE, lqF]
                refine mo_vput (i := j) (v := d2[(j) - 1]!) (.tmp 47) (.tmp 42) rfl N rfl rfl (by have := BND.out; omega) ?_
                clear N
                intro w9 N hb9
                replace HB := Lib.hid (HB.out.trans hb9.out)
                clear hb9
                refine hK _ _ trivial ?_
                clear hK K
                try simp only [Act.put, lqA, lqB, lqC, lqD, lqE, lqF]
                refine hm_run 16 48 (.pointer (some ⟨g, 0 + ((j) - 1) * 1, none⟩)) rfl rfl (by kernel_rfl) (by kernel_rfl) (by kernel_rfl) (fun _ _ _ h => h) rfl (fun W _ => exec_ix rfl (run_ix (k := 1) (j := (j) - 1) Tryd.underlying54 (by kernel_rfl) (by have := BND.out; omega) rfl W)) trivial ?_
                try simp only [Act.put, lqA, lqB, lqC, lqD, lqE, lqF]
                refine hm_one (i := 17) (by kernel_rfl) ?_
                refine hm_step 17 rfl (by kernel_rfl) fun K hK => ?_
                try simp only [Act.put, lqA, lqB, lqC, lqD, lqE, lqF]
                refine mo_vput (i := (j) - 1) (v := d2[j]!) (.tmp 48) (.tmp 46) rfl N rfl rfl (by have := BND.out; omega) ?_
                clear N
                intro w9 N hb9
                replace HB := Lib.hid (HB.out.trans hb9.out)
                clear hb9
                refine hK _ _ trivial ?_
                clear hK K
                try simp only [Act.put, lqA, lqB, lqC, lqD, lqE, lqF]
                refine wpAnyH_done (by kernel_rfl) ?_ _
                go_wp2_with ((with_reducible refine wpList_at 32 rfl ?_); refine wpList_kn rfl (.int .i64 ((j - 1 : Nat) : Int)) (by exact exec_sub rfl rfl rfl (by have := BND.out; rw [IntKind.wrap_i64]; omega)) ?_)
                go_roundg (j - 1)
                case measure => have := BND.out; omega
                case rel => exact ⟨((d2.setIfInBounds (j) d2[(j) - 1]!).setIfInBounds ((j) - 1) d2[j]!), by have := BND.out; omega, by have := BND.out; omega, rfl, N, INX, HB⟩
              · refine hm_step 13 rfl (by kernel_rfl) fun K hK => ?_
                try simp only [Act.put, lqA, lqB, lqC, lqD, lqE, lqF]
                refine mo_known (.int .u64 ((d2[j]! : Nat) : Int)) _ (exec_load rfl (run_load_one Tryd.underlying59 rfl (cell_dn N (by have := BND.out; omega)))) ?_
                refine hK _ _ trivial ?_
                clear hK K
                try simp only [Act.put, lqA, lqB, lqC, lqD, lqE, lqF]
                refine hm_one (i := 9) (by kernel_rfl) ?_
                refine hm_step 9 rfl (by kernel_rfl) fun K hK => ?_
                try simp only [Act.put, lqA, lqB, lqC, lqD, lqE, lqF]
                refine mo_known (.int .u64 ((d2[(j) - 1]! : Nat) : Int)) _ (exec_load rfl (run_load_one Tryd.underlying59 rfl (cell_dn N (by have := BND.out; omega)))) ?_
                refine hK _ _ trivial ?_
                clear hK K
                try simp only [Act.put, lqA, lqB, lqC, lqD, lqE, lqF]
                refine hm_run 14 47 (.pointer (some ⟨g, 0 + (j) * 1, none⟩)) rfl rfl (by kernel_rfl) (by kernel_rfl) (by kernel_rfl) (fun _ _ _ h => h) rfl (fun W _ => exec_ix rfl (run_ix (k := 1) (j := j) Tryd.underlying54 (by kernel_rfl) (by have := BND.out; omega) rfl W)) trivial ?_
                try simp only [Act.put, lqA, lqB, lqC, lqD, lqE, lqF]
                refine hm_one (i := 15) (by kernel_rfl) ?_
                refine hm_step 15 rfl (by kernel_rfl) fun K hK => ?_
                try simp only [Act.put, lqA, lqB, lqC, lqD, lqE, lqF]
                refine mo_vput (i := j) (v := d2[(j) - 1]!) (.tmp 47) (.tmp 42) rfl N rfl rfl (by have := BND.out; omega) ?_
                clear N
                intro w9 N hb9
                replace HB := Lib.hid (HB.out.trans hb9.out)
                clear hb9
                refine hK _ _ trivial ?_
                clear hK K
                try simp only [Act.put, lqA, lqB, lqC, lqD, lqE, lqF]
                refine hm_run 16 48 (.pointer (some ⟨g, 0 + ((j) - 1) * 1, none⟩)) rfl rfl (by kernel_rfl) (by kernel_rfl) (by kernel_rfl) (fun _ _ _ h => h) rfl (fun W _ => exec_ix rfl (run_ix (k := 1) (j := (j) - 1) Tryd.underlying54 (by kernel_rfl) (by have := BND.out; omega) rfl W)) trivial ?_
                try simp only [Act.put, lqA, lqB, lqC, lqD, lqE, lqF]
                refine hm_one (i := 17) (by kernel_rfl) ?_
                refine hm_step 17 rfl (by kernel_rfl) fun K hK => ?_
                try simp only [Act.put, lqA, lqB, lqC, lqD, lqE, lqF]
                refine mo_vput (i := (j) - 1) (v := d2[j]!) (.tmp 48) (.tmp 46) rfl N rfl rfl (by have := BND.out; omega) ?_
                clear N
                intro w9 N hb9
                replace HB := Lib.hid (HB.out.trans hb9.out)
                clear hb9
                refine hK _ _ trivial ?_
                clear hK K
                try simp only [Act.put, lqA, lqB, lqC, lqD, lqE, lqF]
                refine wpAnyH_done (by kernel_rfl) ?_ _
                go_wp2_with ((with_reducible refine wpList_at 32 rfl ?_); refine wpList_kn rfl (.int .i64 ((j - 1 : Nat) : Int)) (by exact exec_sub rfl rfl rfl (by have := BND.out; rw [IntKind.wrap_i64]; omega)) ?_)
                go_roundg (j - 1)
                case measure => have := BND.out; omega
                case rel => exact ⟨((d2.setIfInBounds (j) d2[(j) - 1]!).setIfInBounds ((j) - 1) d2[j]!), by have := BND.out; omega, by have := BND.out; omega, rfl, N, INX, HB⟩
          · have LQ := Lib.hid (decide_eq_false hl)
            have RX := Lib.hid (show d2 = R2 by
              have h := IN.out
              rw [insInner_pos _ _ (by omega), if_neg (by simp [ltN]; omega)] at h
              exact h)
            have OUTX := Lib.hid (show Go.Sort.insOuter ltN a b (i + 1) d2 = R by rw [RX.out]; exact OUT2.out)
            clear IN hja hl
            go_upto_region 4 with fail
            refine wp_region_T (Φ := fun X => (NRow B X g n c d2 ∧ d2.size = n) ∧ Below B w X) (S := fun _ => True) (Lib.hid ⟨N.out, HB.out⟩) (fun X h => ⟨⟨h.1.1.below ((Below.refl _ _).drew), h.1.2⟩, h.2.drew⟩) (fun _ _ => trivial) (by kernel_rfl) ?_
            clear N HB
            intro wx TT S0
            have N := Lib.hid TT.out.1
            have HB := Lib.hid TT.out.2
            clear TT S0
            refine hm_run 0 16 (.int .i64 ((j : Nat) : Int)) rfl rfl (by kernel_rfl) (by kernel_rfl) (by kernel_rfl) (fun _ _ _ h => h) rfl (fun _ _ => rfl) trivial ?_
            try simp only [Act.put, lqA, lqB, lqC, lqD, lqE, lqF]
            refine hm_run 1 17 (.int .i64 ((a : Nat) : Int)) rfl rfl (by kernel_rfl) (by kernel_rfl) (by kernel_rfl) (fun _ _ _ h => h) rfl (fun _ _ => rfl) trivial ?_
            try simp only [Act.put, lqA, lqB, lqC, lqD, lqE, lqF]
            refine hm_run 2 18 (.bool true) rfl rfl (by kernel_rfl) (by kernel_rfl) (by kernel_rfl) (fun _ _ _ h => h) rfl (fun _ _ => exec_gtrN rfl rfl rfl GT.out) trivial ?_
            try simp only [Act.put, lqA, lqB, lqC, lqD, lqE, lqF]
            refine hm_run 3 19 (.bool true) rfl rfl (by kernel_rfl) (by kernel_rfl) (by kernel_rfl) (fun _ _ _ h => h) rfl (fun _ _ => rfl) trivial ?_
            try simp only [Act.put, lqA, lqB, lqC, lqD, lqE, lqF]
            refine hm_run 4 20 (.slice (some ⟨g, 0, none⟩) n c) rfl rfl (by kernel_rfl) (by kernel_rfl) (by kernel_rfl) (fun _ _ _ h => h) rfl (fun _ _ => rfl) trivial ?_
            try simp only [Act.put, lqA, lqB, lqC, lqD, lqE, lqF]
            refine hm_run 5 21 (.int .i64 ((j : Nat) : Int)) rfl rfl (by kernel_rfl) (by kernel_rfl) (by kernel_rfl) (fun _ _ _ h => h) rfl (fun _ _ => rfl) trivial ?_
            try simp only [Act.put, lqA, lqB, lqC, lqD, lqE, lqF]
            refine hm_run 6 22 (.pointer (some ⟨g, 0 + (j) * 1, none⟩)) rfl rfl (by kernel_rfl) (by kernel_rfl) (by kernel_rfl) (fun _ _ _ h => h) rfl (fun W _ => exec_ix rfl (run_ix (k := 1) (j := j) Tryd.underlying54 (by kernel_rfl) (by have := BND.out; omega) rfl W)) trivial ?_
            try simp only [Act.put, lqA, lqB, lqC, lqD, lqE, lqF]
            refine hm_run 8 24 (.slice (some ⟨g, 0, none⟩) n c) rfl rfl (by kernel_rfl) (by kernel_rfl) (by kernel_rfl) (fun _ _ _ h => h) rfl (fun _ _ => rfl) trivial ?_
            try simp only [Act.put, lqA, lqB, lqC, lqD, lqE, lqF]
            refine hm_run 9 25 (.int .i64 ((j : Nat) : Int)) rfl rfl (by kernel_rfl) (by kernel_rfl) (by kernel_rfl) (fun _ _ _ h => h) rfl (fun _ _ => rfl) trivial ?_
            try simp only [Act.put, lqA, lqB, lqC, lqD, lqE, lqF]
            refine hm_run 10 26 (.int .i64 (((j) - 1 : Nat) : Int)) rfl rfl (by kernel_rfl) (by kernel_rfl) (by kernel_rfl) (fun _ _ _ h => h) rfl (fun _ _ => exec_sub rfl rfl rfl (by have := BND.out; rw [IntKind.wrap_i64]; omega)) trivial ?_
            try simp only [Act.put, lqA, lqB, lqC, lqD, lqE, lqF]
            refine hm_run 11 27 (.pointer (some ⟨g, 0 + ((j) - 1) * 1, none⟩)) rfl rfl (by kernel_rfl) (by kernel_rfl) (by kernel_rfl) (fun _ _ _ h => h) rfl (fun W _ => exec_ix rfl (run_ix (k := 1) (j := (j) - 1) Tryd.underlying54 (by kernel_rfl) (by have := BND.out; omega) rfl W)) trivial ?_
            try simp only [Act.put, lqA, lqB, lqC, lqD, lqE, lqF]
            refine hm_two (i := 7) (j := 12) (by kernel_rfl) ?_ ?_
            · refine hm_step 7 rfl (by kernel_rfl) fun K hK => ?_
              try simp only [Act.put, lqA, lqB, lqC, lqD, lqE, lqF]
              refine mo_known (.int .u64 ((d2[j]! : Nat) : Int)) _ (exec_load rfl (run_load_one Tryd.underlying59 rfl (cell_dn N (by have := BND.out; omega)))) ?_
              refine hK _ _ trivial ?_
              clear hK K
              try simp only [Act.put, lqA, lqB, lqC, lqD, lqE, lqF]
              refine hm_one (i := 12) (by kernel_rfl) ?_
              refine hm_step 12 rfl (by kernel_rfl) fun K hK => ?_
              try simp only [Act.put, lqA, lqB, lqC, lqD, lqE, lqF]
              refine mo_known (.int .u64 ((d2[(j) - 1]! : Nat) : Int)) _ (exec_load rfl (run_load_one Tryd.underlying59 rfl (cell_dn N (by have := BND.out; omega)))) ?_
              refine hK _ _ trivial ?_
              clear hK K
              try simp only [Act.put, lqA, lqB, lqC, lqD, lqE, lqF]
              refine hm_one (i := 13) (by kernel_rfl) ?_
              refine hm_step 13 rfl (by kernel_rfl) fun K hK => ?_
              try simp only [Act.put, lqA, lqB, lqC, lqD, lqE, lqF]
              go_simp
              go_at_call 58
              refine (less_any _ _ _).mono ?_
              rintro e w7 ⟨rfl, rfl⟩
              rw [LQ.out]
              refine hK _ _ trivial ?_
              clear hK K
              try simp only [Act.put, lqA, lqB, lqC, lqD, lqE, lqF]
              refine hm_run 14 30 (.bool false) rfl rfl (by kernel_rfl) (by kernel_rfl) (by kernel_rfl) (fun _ _ _ h => h) rfl (fun _ _ => rfl) trivial ?_
              try simp only [Act.put, lqA, lqB, lqC, lqD, lqE, lqF]
              refine wpAnyH_done (by kernel_rfl) ?_ _
              go_wp2_with ((with_reducible refine wpList_at 14 rfl ?_); refine wpList_kn rfl (.int .i64 ((i + 1 : Nat) : Int)) (by exact exec_add rfl rfl rfl (by have := BND.out; rw [IntKind.wrap_i64]; omega)) ?_)
              go_roundg (b - (i + 1))
              case measure => have := BND.out; have := BI.out; have := KI.out; omega
              case rel => exact ⟨i + 1, d2, by have := BND.out; omega, by have := BND.out; omega, rfl, N, OUTX, HB⟩
            · refine hm_step 12 rfl (by kernel_rfl) fun K hK => ?_
              try simp only [Act.put, lqA, lqB, lqC, lqD, lqE, lqF]
              refine mo_known (.int .u64 ((d2[(j) - 1]! : Nat) : Int)) _ (exec_load rfl (run_load_one Tryd.underlying59 rfl (cell_dn N (by have := BND.out; omega)))) ?_
              refine hK _ _ trivial ?_
              clear hK K
              try simp only [Act.put, lqA, lqB, lqC, lqD, lqE, lqF]
              refine hm_one (i := 7) (by kernel_rfl) ?_
              refine hm_step 7 rfl (by kernel_rfl) fun K hK => ?_
              try simp only [Act.put, lqA, lqB, lqC, lqD, lqE, lqF]
              refine mo_known (.int .u64 ((d2[j]! : Nat) : Int)) _ (exec_load rfl (run_load_one Tryd.underlying59 rfl (cell_dn N (by have := BND.out; omega)))) ?_
              refine hK _ _ trivial ?_
              clear hK K
              try simp only [Act.put, lqA, lqB, lqC, lqD, lqE, lqF]
              refine hm_one (i := 13) (by kernel_rfl) ?_
              refine hm_step 13 rfl (by kernel_rfl) fun K hK => ?_
              try simp only [Act.put, lqA, lqB, lqC, lqD, lqE, lqF]
              go_simp
              go_at_call 58
              refine (less_any _ _ _).mono ?_
              rintro e w7 ⟨rfl, rfl⟩
              rw [LQ.out]
              refine hK _ _ trivial ?_
              clear hK K
              try simp only [Act.put, lqA, lqB, lqC, lqD, lqE, lqF]
              refine hm_run 14 30 (.bool false) rfl rfl (by kernel_rfl) (by kernel_rfl) (by kernel_rfl) (fun _ _ _ h => h) rfl (fun _ _ => rfl) trivial ?_
              try simp only [Act.put, lqA, lqB, lqC, lqD, lqE, lqF]
              refine wpAnyH_done (by kernel_rfl) ?_ _
              go_wp2_with ((with_reducible refine wpList_at 14 rfl ?_); refine wpList_kn rfl (.int .i64 ((i + 1 : Nat) : Int)) (by exact exec_add rfl rfl rfl (by have := BND.out; rw [IntKind.wrap_i64]; omega)) ?_)
              go_roundg (b - (i + 1))
              case measure => have := BND.out; have := BI.out; have := KI.out; omega
              case rel => exact ⟨i + 1, d2, by have := BND.out; omega, by have := BND.out; omega, rfl, N, OUTX, HB⟩
        · have GT := Lib.hid (show decide ((a : Int) < (j : Int)) = false from decide_eq_false (by omega))
          have RX := Lib.hid (show d2 = R2 by
            have h := IN.out
            rw [insInner_off _ _ hja] at h
            exact h)
          have OUTX := Lib.hid (show Go.Sort.insOuter ltN a b (i + 1) d2 = R by rw [RX.out]; exact OUT2.out)
          clear IN hja
          go_upto_region 4 with fail
          refine wp_region_T (Φ := fun X => (NRow B X g n c d2 ∧ d2.size = n) ∧ Below B w X) (S := fun _ => True) (Lib.hid ⟨N.out, HB.out⟩) (fun X h => ⟨⟨h.1.1.below ((Below.refl _ _).drew), h.1.2⟩, h.2.drew⟩) (fun _ _ => trivial) (by kernel_rfl) ?_
          clear N HB
          intro wx TT S0
          have N := Lib.hid TT.out.1
          have HB := Lib.hid TT.out.2
          clear TT S0
          refine hm_run 0 16 (.int .i64 ((j : Nat) : Int)) rfl rfl (by kernel_rfl) (by kernel_rfl) (by kernel_rfl) (fun _ _ _ h => h) rfl (fun _ _ => rfl) trivial ?_
          try simp only [Act.put, lqA, lqB, lqC, lqD, lqE, lqF]
          refine hm_run 1 17 (.int .i64 ((a : Nat) : Int)) rfl rfl (by kernel_rfl) (by kernel_rfl) (by kernel_rfl) (fun _ _ _ h => h) rfl (fun _ _ => rfl) trivial ?_
          try simp only [Act.put, lqA, lqB, lqC, lqD, lqE, lqF]
          refine hm_run 2 18 (.bool false) rfl rfl (by kernel_rfl) (by kernel_rfl) (by kernel_rfl) (fun _ _ _ h => h) rfl (fun _ _ => exec_gtrN rfl rfl rfl GT.out) trivial ?_
          try simp only [Act.put, lqA, lqB, lqC, lqD, lqE, lqF]
          refine hm_run 3 19 (.bool false) rfl rfl (by kernel_rfl) (by kernel_rfl) (by kernel_rfl) (fun _ _ _ h => h) rfl (fun _ _ => rfl) trivial ?_
          try simp only [Act.put, lqA, lqB, lqC, lqD, lqE, lqF]
          refine hm_off 4 20 rfl rfl (by kernel_rfl) (by kernel_rfl) (by kernel_rfl) (fun _ _ _ h => h) rfl trivial ?_
          try simp only [Act.put, lqA, lqB, lqC, lqD, lqE, lqF]
          refine hm_off 5 21 rfl rfl (by kernel_rfl) (by kernel_rfl) (by kernel_rfl) (fun _ _ _ h => h) rfl trivial ?_
          try simp only [Act.put, lqA, lqB, lqC, lqD, lqE, lqF]
          refine hm_off 6 22 rfl rfl (by kernel_rfl) (by kernel_rfl) (by kernel_rfl) (fun _ _ _ h => h) rfl trivial ?_
          try simp only [Act.put, lqA, lqB, lqC, lqD, lqE, lqF]
          refine hm_off 7 23 rfl rfl (by kernel_rfl) (by kernel_rfl) (by kernel_rfl) (fun _ _ _ h => h) rfl trivial ?_
          try simp only [Act.put, lqA, lqB, lqC, lqD, lqE, lqF]
          refine hm_off 8 24 rfl rfl (by kernel_rfl) (by kernel_rfl) (by kernel_rfl) (fun _ _ _ h => h) rfl trivial ?_
          try simp only [Act.put, lqA, lqB, lqC, lqD, lqE, lqF]
          refine hm_off 9 25 rfl rfl (by kernel_rfl) (by kernel_rfl) (by kernel_rfl) (fun _ _ _ h => h) rfl trivial ?_
          try simp only [Act.put, lqA, lqB, lqC, lqD, lqE, lqF]
          refine hm_off 10 26 rfl rfl (by kernel_rfl) (by kernel_rfl) (by kernel_rfl) (fun _ _ _ h => h) rfl trivial ?_
          try simp only [Act.put, lqA, lqB, lqC, lqD, lqE, lqF]
          refine hm_off 11 27 rfl rfl (by kernel_rfl) (by kernel_rfl) (by kernel_rfl) (fun _ _ _ h => h) rfl trivial ?_
          try simp only [Act.put, lqA, lqB, lqC, lqD, lqE, lqF]
          refine hm_off 12 28 rfl rfl (by kernel_rfl) (by kernel_rfl) (by kernel_rfl) (fun _ _ _ h => h) rfl trivial ?_
          try simp only [Act.put, lqA, lqB, lqC, lqD, lqE, lqF]
          refine hm_off 13 29 rfl rfl (by kernel_rfl) (by kernel_rfl) (by kernel_rfl) (fun _ _ _ h => h) rfl trivial ?_
          try simp only [Act.put, lqA, lqB, lqC, lqD, lqE, lqF]
          refine hm_run 14 30 (.bool false) rfl rfl (by kernel_rfl) (by kernel_rfl) (by kernel_rfl) (fun _ _ _ h => h) rfl (fun _ _ => rfl) trivial ?_
          try simp only [Act.put, lqA, lqB, lqC, lqD, lqE, lqF]
          refine wpAnyH_done (by kernel_rfl) ?_ _
          go_wp2_with ((with_reducible refine wpList_at 14 rfl ?_); refine wpList_kn rfl (.int .i64 ((i + 1 : Nat) : Int)) (by exact exec_add rfl rfl rfl (by have := BND.out; rw [IntKind.wrap_i64]; omega)) ?_)
          go_roundg (b - (i + 1))
          case measure => have := BND.out; have := BI.out; have := KI.out; omega
          case rel => exact ⟨i + 1, d2, by have := BND.out; omega, by have := BND.out; omega, rfl, N, OUTX, HB⟩
    · have LT := Lib.hid (show decide ((i : Int) < (b : Int)) = false from decide_eq_false (by omega))
      have RX := Lib.hid (show d1 = R by have h := OUT.out; rw [Go.Sort.insOuter, if_neg hib] at h; exact h)
      clear hib hk hai OUT
      go_wp2_with ((with_reducible refine wpList_at 12 rfl ?_); refine wpList_kn rfl (.bool false) (by exact exec_lssi rfl rfl rfl LT.out) ?_)
      go_end0
      exact ⟨rfl, by rw [← RX.out]; exact N.out, HB.out⟩
end Go.Proofs.YtoopcmcmjaikhaaDoor
