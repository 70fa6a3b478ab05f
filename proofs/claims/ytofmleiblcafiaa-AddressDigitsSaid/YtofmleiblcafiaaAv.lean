/- slices.Reverse of a row of the call's own. -/
import Derived.Test.YtofmleiblcafiaaGd
import Derived.Deep.LoopGhost
set_option linter.unusedSimpArgs false
set_option linter.unusedVariables false
set_option maxRecDepth 100000
namespace Go.Proofs.Ytofmleiblcafiaa
open Go.RowKit Go.Lib Go.Sort

/-- The first k and the last k of n turned round. -/
def rv (f : Nat → Nat) (n k : Nat) : Nat → Nat := fun i => if i < k ∨ n ≤ i + k then f (n - 1 - i) else f i
theorem rv_zero (f : Nat → Nat) (n i : Nat) (h : i < n) : rv f n 0 i = f i := by unfold rv; rw [if_neg (by omega)]
theorem rv_end (f : Nat → Nat) (n k i : Nat) (h : i < n) (hk : n ≤ 2 * k + 1) : rv f n k i = f (n - 1 - i) := by
  unfold rv
  by_cases h1 : i < k ∨ n ≤ i + k
  · rw [if_pos h1]
  · rw [if_neg h1, show n - 1 - i = i by omega]
theorem rv_succ (f : Nat → Nat) (n k j i : Nat) (hj : j = n - 1 - k) (hk : k < j) (h : i < n) : (if i = j then rv f n k k else if i = k then rv f n k j else rv f n k i) = rv f n (k + 1) i := by
  unfold rv
  subst hj
  by_cases h1 : i = n - 1 - k
  · subst h1
    rw [if_pos rfl, if_neg (by omega), if_pos (by omega), show n - 1 - (n - 1 - k) = k by omega]
  · rw [if_neg h1]
    by_cases h2 : i = k
    · subst h2
      rw [if_pos rfl, if_neg (by omega), if_pos (by omega)]
    · rw [if_neg h2]
      by_cases h3 : i < k ∨ n ≤ i + k
      · rw [if_pos h3, if_pos (by omega)]
      · rw [if_neg h3, if_neg (by omega)]
section
variable {Q : Exit → Act → World → Prop} {op : Oper} {a : Act} {w : World} {K : Act → World → Prop}
theorem mo_bput (x y : Operand) (ho : op.op = .store 5 x y) {B g n c i v : Nat} {p : Option Addr} {f : Nat → Nat} (N : Own B w p g n c f) (hx : a.eval x = .pointer (some ⟨g, 0 + i * 1, none⟩)) (hy : a.eval y = .int .u8 (v : Int)) (hi : i < n) (hv : v < 256)
    (k : ∀ w', Hid (Own B w' p g n c fun k => if k = i then v else f k) → Hid (Below B w w') → K (a.put op.dst undef) w') : op.wp Try.prog a w K Q := by
  obtain ⟨O, hb, hf⟩ := own_put N hi hv
  rw [Nat.zero_add, Nat.mul_one] at hx
  have hc := N.row.cell i hi
  rw [Nat.zero_add] at hc
  unfold Oper.wp execOp
  simp only [ho, hx, hy, Sem.run_bind, Sem.run_pure, run_store_one (P := Try.prog) (ty := 5) (v := .int .u8 (v : Int)) (by kernel_rfl) rfl rfl hc hf, Result.andThen_ok]
  exact k _ (Lib.hid O) (Lib.hid hb)
end
set_option maxHeartbeats 8000000 in
theorem rev_any {w : World} {B : Nat} {p : Option Addr} {g n c : Nat} {f : Nat → Nat} (N0 : Hid (Own B w p g n c f)) (hn : n ≤ 140737488355328) : Calls Try.prog 14 #[.slice p n c] w fun e w' => e = .returned (.tuple #[]) ∧ Own B w' p g n c (fun i => f (n - 1 - i)) ∧ Below B w w' := by
  have N1 := Lib.hid (N0.out.to (y := rv f n 0) (fun i hi => (rv_zero f n i hi).symm) (fun i => by unfold rv; split <;> exact N0.out.byte _))
  have B1 := Lib.hid (Below.refl B w)
  have FB := Lib.hid N0.out.byte
  go_enter Try.func14, Try.ntmps14
  go_wp2
  go_loopg [2, 3] n (fun m i jv wr => ∃ k : Nat, k + m = n ∧ 2 * k ≤ n + 1 ∧ i = .int .i64 (k : Int) ∧ jv = .int .i64 ((n : Int) - 1 - (k : Int)) ∧ Hid (Own B wr p g n c (rv f n k)) ∧ Hid (Below B w wr))
  case atStart => exact ⟨0, by omega, by omega, rfl, congrArg (Value.int .i64) (by omega), N1, B1⟩
  case round =>
    clear N1 B1
    obtain ⟨k, hk, hk2, rfl, rfl, N, BB⟩ := hrel
    obtain ⟨kk, rfl⟩ : ∃ kk : Nat, kk = gk := ⟨_, rfl⟩
    by_cases hlt : 2 * k + 1 < n
    · obtain ⟨j, hj⟩ : ∃ j, j = n - 1 - k := ⟨_, rfl⟩
      have ej : (n : Int) - 1 - (k : Int) = (j : Int) := by omega
      rw [ej]
      have hkj : k < j := by omega
      have hjn : j < n := by omega
      have HJ := Lib.hid (And.intro hj ej)
      clear ej hj
      obtain rfl := N.out.row.head (by omega)
      have E := Lib.hid (Mem.nil wr)
      go_upto_region 3 with fail
      refine wp_region_memS (S := fun W' => ∃ h, Own B W' (some ⟨g, 0, none⟩) g n c h) E (by kernel_rfl) ?_
      intro wx E0
      replace N := Lib.hid (N.out.below E0.out.below)
      replace BB := Lib.hid (BB.out.trans (E0.out.below.mono (Nat.le_trans N0.out.low BB.out.size)))
      clear E0
      have RJ := Lib.hid (show rv f n k j < 256 ∧ rv f n k k < 256 from ⟨N.out.byte j, N.out.byte k⟩)
      refine hm_run 0 14 (.slice (some ⟨g, 0, none⟩) n c) rfl rfl (by kernel_rfl) (by kernel_rfl) (by kernel_rfl) (fun _ _ _ h => h) rfl (fun W' hW => rfl) ⟨_, N.out⟩ ?_
      try simp only [Act.put, List.getElem_toArray, List.getElem_cons_succ, List.getElem_cons_zero, List.setIfInBounds_toArray, List.set_cons_zero, List.set_cons_succ]
      refine hm_run 1 15 (.int .i64 (k : Int)) rfl rfl (by kernel_rfl) (by kernel_rfl) (by kernel_rfl) (fun _ _ _ h => h) rfl (fun W' hW => rfl) ⟨_, N.out⟩ ?_
      try simp only [Act.put, List.getElem_toArray, List.getElem_cons_succ, List.getElem_cons_zero, List.setIfInBounds_toArray, List.set_cons_zero, List.set_cons_succ]
      refine hm_run 2 16 (.slice (some ⟨g, 0, none⟩) n c) rfl rfl (by kernel_rfl) (by kernel_rfl) (by kernel_rfl) (fun _ _ _ h => h) rfl (fun W' hW => rfl) ⟨_, N.out⟩ ?_
      try simp only [Act.put, List.getElem_toArray, List.getElem_cons_succ, List.getElem_cons_zero, List.setIfInBounds_toArray, List.set_cons_zero, List.set_cons_succ]
      refine hm_run 3 17 (.int .i64 (j : Int)) rfl rfl (by kernel_rfl) (by kernel_rfl) (by kernel_rfl) (fun _ _ _ h => h) rfl (fun W' hW => rfl) ⟨_, N.out⟩ ?_
      try simp only [Act.put, List.getElem_toArray, List.getElem_cons_succ, List.getElem_cons_zero, List.setIfInBounds_toArray, List.set_cons_zero, List.set_cons_succ]
      refine hm_run 4 18 (.slice (some ⟨g, 0, none⟩) n c) rfl rfl (by kernel_rfl) (by kernel_rfl) (by kernel_rfl) (fun _ _ _ h => h) rfl (fun W' hW => rfl) ⟨_, N.out⟩ ?_
      try simp only [Act.put, List.getElem_toArray, List.getElem_cons_succ, List.getElem_cons_zero, List.setIfInBounds_toArray, List.set_cons_zero, List.set_cons_succ]
      refine hm_run 5 19 (.int .i64 (j : Int)) rfl rfl (by kernel_rfl) (by kernel_rfl) (by kernel_rfl) (fun _ _ _ h => h) rfl (fun W' hW => rfl) ⟨_, N.out⟩ ?_
      try simp only [Act.put, List.getElem_toArray, List.getElem_cons_succ, List.getElem_cons_zero, List.setIfInBounds_toArray, List.set_cons_zero, List.set_cons_succ]
      refine hm_run 6 20 (.pointer (some ⟨g, 0 + j * 1, none⟩)) rfl rfl (by kernel_rfl) (by kernel_rfl) (by kernel_rfl) (fun _ _ _ h => h) rfl (fun W' hW => exec_ix rfl (run_ix (k := 1) (j := j) Try.underlying22 (by kernel_rfl) (by omega) rfl W')) ⟨_, N.out⟩ ?_
      try simp only [Act.put, List.getElem_toArray, List.getElem_cons_succ, List.getElem_cons_zero, List.setIfInBounds_toArray, List.set_cons_zero, List.set_cons_succ]
      refine hm_run 8 22 (.slice (some ⟨g, 0, none⟩) n c) rfl rfl (by kernel_rfl) (by kernel_rfl) (by kernel_rfl) (fun _ _ _ h => h) rfl (fun W' hW => rfl) ⟨_, N.out⟩ ?_
      try simp only [Act.put, List.getElem_toArray, List.getElem_cons_succ, List.getElem_cons_zero, List.setIfInBounds_toArray, List.set_cons_zero, List.set_cons_succ]
      refine hm_run 9 23 (.int .i64 (k : Int)) rfl rfl (by kernel_rfl) (by kernel_rfl) (by kernel_rfl) (fun _ _ _ h => h) rfl (fun W' hW => rfl) ⟨_, N.out⟩ ?_
      try simp only [Act.put, List.getElem_toArray, List.getElem_cons_succ, List.getElem_cons_zero, List.setIfInBounds_toArray, List.set_cons_zero, List.set_cons_succ]
      refine hm_run 10 24 (.pointer (some ⟨g, 0 + k * 1, none⟩)) rfl rfl (by kernel_rfl) (by kernel_rfl) (by kernel_rfl) (fun _ _ _ h => h) rfl (fun W' hW => exec_ix rfl (run_ix (k := 1) (j := k) Try.underlying22 (by kernel_rfl) (by omega) rfl W')) ⟨_, N.out⟩ ?_
      try simp only [Act.put, List.getElem_toArray, List.getElem_cons_succ, List.getElem_cons_zero, List.setIfInBounds_toArray, List.set_cons_zero, List.set_cons_succ]
      refine hm_two (i := 7) (j := 11) (by kernel_rfl) ?_ ?_
      · refine hm_step 7 rfl (by kernel_rfl) fun K hK => ?_
        try simp only [Act.put, List.getElem_toArray, List.getElem_cons_succ, List.getElem_cons_zero, List.setIfInBounds_toArray, List.set_cons_zero, List.set_cons_succ]
        refine mo_known (.int .u8 ((rv f n k j : Nat) : Int)) _ (exec_load rfl (run_load_one Try.underlying5 rfl (by have := N.out.row.cell j (by omega); rwa [Nat.mul_one]))) ?_
        refine hK _ _ ⟨_, N.out⟩ ?_
        clear hK K
        try simp only [Act.put, List.getElem_toArray, List.getElem_cons_succ, List.getElem_cons_zero, List.setIfInBounds_toArray, List.set_cons_zero, List.set_cons_succ]
        refine hm_one (i := 11) (by kernel_rfl) ?_
        refine hm_step 11 rfl (by kernel_rfl) fun K hK => ?_
        try simp only [Act.put, List.getElem_toArray, List.getElem_cons_succ, List.getElem_cons_zero, List.setIfInBounds_toArray, List.set_cons_zero, List.set_cons_succ]
        refine mo_known (.int .u8 ((rv f n k k : Nat) : Int)) _ (exec_load rfl (run_load_one Try.underlying5 rfl (by have := N.out.row.cell k (by omega); rwa [Nat.mul_one]))) ?_
        refine hK _ _ ⟨_, N.out⟩ ?_
        clear hK K
        try simp only [Act.put, List.getElem_toArray, List.getElem_cons_succ, List.getElem_cons_zero, List.setIfInBounds_toArray, List.set_cons_zero, List.set_cons_succ]
        refine hm_run 12 26 (.pointer (some ⟨g, 0 + k * 1, none⟩)) rfl rfl (by kernel_rfl) (by kernel_rfl) (by kernel_rfl) (fun _ _ _ h => h) rfl (fun W' hW => exec_ix rfl (run_ix (k := 1) (j := k) Try.underlying22 (by kernel_rfl) (by omega) rfl W')) ⟨_, N.out⟩ ?_
        try simp only [Act.put, List.getElem_toArray, List.getElem_cons_succ, List.getElem_cons_zero, List.setIfInBounds_toArray, List.set_cons_zero, List.set_cons_succ]
        refine hm_one (i := 13) (by kernel_rfl) ?_
        refine hm_step 13 rfl (by kernel_rfl) fun K hK => ?_
        try simp only [Act.put, List.getElem_toArray, List.getElem_cons_succ, List.getElem_cons_zero, List.setIfInBounds_toArray, List.set_cons_zero, List.set_cons_succ]
        refine mo_bput (.tmp 26) (.tmp 21) rfl N.out rfl rfl (by omega) RJ.out.1 ?_
        intro w8 N8 hb8
        replace BB := Lib.hid (BB.out.trans hb8.out)
        clear hb8 N
        refine hK _ _ ⟨_, N8.out⟩ ?_
        clear hK K
        try simp only [Act.put, List.getElem_toArray, List.getElem_cons_succ, List.getElem_cons_zero, List.setIfInBounds_toArray, List.set_cons_zero, List.set_cons_succ]
        refine hm_run 14 27 (.pointer (some ⟨g, 0 + j * 1, none⟩)) rfl rfl (by kernel_rfl) (by kernel_rfl) (by kernel_rfl) (fun _ _ _ h => h) rfl (fun W' hW => exec_ix rfl (run_ix (k := 1) (j := j) Try.underlying22 (by kernel_rfl) (by omega) rfl W')) ⟨_, N8.out⟩ ?_
        try simp only [Act.put, List.getElem_toArray, List.getElem_cons_succ, List.getElem_cons_zero, List.setIfInBounds_toArray, List.set_cons_zero, List.set_cons_succ]
        refine hm_one (i := 15) (by kernel_rfl) ?_
        refine hm_step 15 rfl (by kernel_rfl) fun K hK => ?_
        try simp only [Act.put, List.getElem_toArray, List.getElem_cons_succ, List.getElem_cons_zero, List.setIfInBounds_toArray, List.set_cons_zero, List.set_cons_succ]
        refine mo_bput (.tmp 27) (.tmp 25) rfl N8.out rfl rfl (by omega) RJ.out.2 ?_
        intro w9 N9 hb9
        replace BB := Lib.hid (BB.out.trans hb9.out)
        clear hb9 N8
        refine hK _ _ ⟨_, N9.out⟩ ?_
        clear hK K
        try simp only [Act.put, List.getElem_toArray, List.getElem_cons_succ, List.getElem_cons_zero, List.setIfInBounds_toArray, List.set_cons_zero, List.set_cons_succ]
        refine wpAnyH_done (by kernel_rfl) ?_ _
        have Ytofmleiblcafiaa := Lib.hid (N9.out.to (y := rv f n (k + 1)) (fun i hi => rv_succ f n k j i HJ.out.1 hkj hi) (fun i => by unfold rv; split <;> exact FB.out _))
        clear N9
        go_wp2
        go_roundg (n - (k + 1))
        case measure => omega
        case rel => exact ⟨k + 1, by omega, by omega, by go_num, congrArg (Value.int .i64) (by have := HJ.out.2; omega), Ytofmleiblcafiaa, BB⟩
      · refine hm_step 11 rfl (by kernel_rfl) fun K hK => ?_
        try simp only [Act.put, List.getElem_toArray, List.getElem_cons_succ, List.getElem_cons_zero, List.setIfInBounds_toArray, List.set_cons_zero, List.set_cons_succ]
        refine mo_known (.int .u8 ((rv f n k k : Nat) : Int)) _ (exec_load rfl (run_load_one Try.underlying5 rfl (by have := N.out.row.cell k (by omega); rwa [Nat.mul_one]))) ?_
        refine hK _ _ ⟨_, N.out⟩ ?_
        clear hK K
        try simp only [Act.put, List.getElem_toArray, List.getElem_cons_succ, List.getElem_cons_zero, List.setIfInBounds_toArray, List.set_cons_zero, List.set_cons_succ]
        refine hm_one (i := 7) (by kernel_rfl) ?_
        refine hm_step 7 rfl (by kernel_rfl) fun K hK => ?_
        try simp only [Act.put, List.getElem_toArray, List.getElem_cons_succ, List.getElem_cons_zero, List.setIfInBounds_toArray, List.set_cons_zero, List.set_cons_succ]
        refine mo_known (.int .u8 ((rv f n k j : Nat) : Int)) _ (exec_load rfl (run_load_one Try.underlying5 rfl (by have := N.out.row.cell j (by omega); rwa [Nat.mul_one]))) ?_
        refine hK _ _ ⟨_, N.out⟩ ?_
        clear hK K
        try simp only [Act.put, List.getElem_toArray, List.getElem_cons_succ, List.getElem_cons_zero, List.setIfInBounds_toArray, List.set_cons_zero, List.set_cons_succ]
        refine hm_run 12 26 (.pointer (some ⟨g, 0 + k * 1, none⟩)) rfl rfl (by kernel_rfl) (by kernel_rfl) (by kernel_rfl) (fun _ _ _ h => h) rfl (fun W' hW => exec_ix rfl (run_ix (k := 1) (j := k) Try.underlying22 (by kernel_rfl) (by omega) rfl W')) ⟨_, N.out⟩ ?_
        try simp only [Act.put, List.getElem_toArray, List.getElem_cons_succ, List.getElem_cons_zero, List.setIfInBounds_toArray, List.set_cons_zero, List.set_cons_succ]
        refine hm_one (i := 13) (by kernel_rfl) ?_
        refine hm_step 13 rfl (by kernel_rfl) fun K hK => ?_
        try simp only [Act.put, List.getElem_toArray, List.getElem_cons_succ, List.getElem_cons_zero, List.setIfInBounds_toArray, List.set_cons_zero, List.set_cons_succ]
        refine mo_bput (.tmp 26) (.tmp 21) rfl N.out rfl rfl (by omega) RJ.out.1 ?_
        intro w8 N8 hb8
        replace BB := Lib.hid (BB.out.trans hb8.out)
        clear hb8 N
        refine hK _ _ ⟨_, N8.out⟩ ?_
        clear hK K
        try simp only [Act.put, List.getElem_toArray, List.getElem_cons_succ, List.getElem_cons_zero, List.setIfInBounds_toArray, List.set_cons_zero, List.set_cons_succ]
        refine hm_run 14 27 (.pointer (some ⟨g, 0 + j * 1, none⟩)) rfl rfl (by kernel_rfl) (by kernel_rfl) (by kernel_rfl) (fun _ _ _ h => h) rfl (fun W' hW => exec_ix rfl (run_ix (k := 1) (j := j) Try.underlying22 (by kernel_rfl) (by omega) rfl W')) ⟨_, N8.out⟩ ?_
        try simp only [Act.put, List.getElem_toArray, List.getElem_cons_succ, List.getElem_cons_zero, List.setIfInBounds_toArray, List.set_cons_zero, List.set_cons_succ]
        refine hm_one (i := 15) (by kernel_rfl) ?_
        refine hm_step 15 rfl (by kernel_rfl) fun K hK => ?_
        try simp only [Act.put, List.getElem_toArray, List.getElem_cons_succ, List.getElem_cons_zero, List.setIfInBounds_toArray, List.set_cons_zero, List.set_cons_succ]
        refine mo_bput (.tmp 27) (.tmp 25) rfl N8.out rfl rfl (by omega) RJ.out.2 ?_
        intro w9 N9 hb9
        replace BB := Lib.hid (BB.out.trans hb9.out)
        clear hb9 N8
        refine hK _ _ ⟨_, N9.out⟩ ?_
        clear hK K
        try simp only [Act.put, List.getElem_toArray, List.getElem_cons_succ, List.getElem_cons_zero, List.setIfInBounds_toArray, List.set_cons_zero, List.set_cons_succ]
        refine wpAnyH_done (by kernel_rfl) ?_ _
        have Ytofmleiblcafiaa := Lib.hid (N9.out.to (y := rv f n (k + 1)) (fun i hi => rv_succ f n k j i HJ.out.1 hkj hi) (fun i => by unfold rv; split <;> exact FB.out _))
        clear N9
        go_wp2
        go_roundg (n - (k + 1))
        case measure => omega
        case rel => exact ⟨k + 1, by omega, by omega, by go_num, congrArg (Value.int .i64) (by have := HJ.out.2; omega), Ytofmleiblcafiaa, BB⟩
    · have d1 : decide ((k : Int) < (n : Int) - 1 - (k : Int)) = false := by simp; omega
      have NF := Lib.hid (N.out.to (y := fun i => f (n - 1 - i)) (fun i hi => rv_end f n k i hi (by omega)) (fun i => FB.out _))
      go_wp2
      go_end0
      exact ⟨rfl, NF.out, BB.out⟩
end Go.Proofs.Ytofmleiblcafiaa
