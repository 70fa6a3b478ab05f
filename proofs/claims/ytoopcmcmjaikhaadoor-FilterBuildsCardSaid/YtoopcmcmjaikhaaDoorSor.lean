/- The sort of uint64: order2 and its counter behind a pointer. -/
import Derived.Test.YtoopcmcmjaikhaaDoorSpi
import Derived.RangeFuncBox
set_option linter.unusedSimpArgs false
set_option linter.unusedVariables false
set_option maxRecDepth 100000
namespace Go.Proofs.YtoopcmcmjaikhaaDoor
open Go.RowKit Go.Lib

theorem cell_v0 {T B g n c : Nat} {w : World} {V : Nat → Value} (N : Hid (VOwn T 1 B w (some ⟨g, 0, none⟩) g n c V)) (h0 : 0 < n) : w.cell? ⟨g, 0, none⟩ = some (V 0) := by
  have h := N.out.row.cell 0 (by omega)
  exact h
theorem vset0 {T B g n c : Nat} {w : World} {V : Nat → Value} (N : VOwn T 1 B w (some ⟨g, 0, none⟩) g (n + 1) c V) (v : Value) (h1 : v.oneCell' = true) : VOwn T 1 B (w.setCell ⟨g, 0, none⟩ v) (some ⟨g, 0, none⟩) g (n + 1) c (fun k => if k = 0 then v else V k) := (vput N (Nat.succ_pos n) h1).1
section
variable {Q : Exit → Act → World → Prop} {op : Oper} {a : Act} {w : World} {K : Act → World → Prop} {ops : Array Oper} {rest : List Oper}
theorem mo_put0 {T B g n c : Nat} {V : Nat → Value} {v : Value} (ty : TypeId) (x y : Operand) (ho : op.op = .store ty x y) (N : Hid (VOwn T 1 B w (some ⟨g, 0, none⟩) g n c V)) (hx : a.eval x = .pointer (some ⟨g, 0, none⟩)) (hy : a.eval y = v) (hs : (Tryd.prog.info? ty).map (·.size) = some 1) (h1 : v.cells = #[v]) (h2 : v.oneCell' = true) (h0 : 0 < n)
    (k : K (a.put op.dst undef) (w.setCell ⟨g, 0, none⟩ v)) : op.wp Tryd.prog a w K Q := by
  obtain ⟨_, _, hf⟩ := vput N.out h0 h2
  have hc := cell_v0 N h0
  unfold Oper.wp execOp
  simp only [ho, hx, hy, Sem.run_bind, Sem.run_pure, run_store_one (P := Tryd.prog) (ty := ty) (v := v) hs h1 h2 hc hf, Result.andThen_ok]
  exact k
theorem wpList_put0 {T B g n c : Nat} {V : Nat → Value} {v : Value} (hgd : op.guard = none) (ty : TypeId) (x y : Operand) (ho : op.op = .store ty x y) (N : Hid (VOwn T 1 B w (some ⟨g, 0, none⟩) g n c V)) (hx : a.eval x = .pointer (some ⟨g, 0, none⟩)) (hy : a.eval y = v) (hs : (Tryd.prog.info? ty).map (·.size) = some 1) (h1 : v.cells = #[v]) (h2 : v.oneCell' = true) (h0 : 0 < n)
    (h : wpList Tryd.prog ops Q rest (a.put op.dst undef) (w.setCell ⟨g, 0, none⟩ v)) : wpList Tryd.prog ops Q (op :: rest) a w :=
  wpList_plain hgd fun _ hK => mo_put0 ty x y ho N hx hy hs h1 h2 h0 (hK _ _ h)
end
set_option maxHeartbeats 8000000 in
theorem ord64_any {w : World} {B g n c sb k a b : Nat} {d : Array Nat} (N : Hid (NRow B w g n c d ∧ d.size = n)) (X : Hid (VOwn 3 1 sb w (some ⟨sb, 0, none⟩) sb 1 1 (fun _ => .int .i64 ((k : Nat) : Int)))) (ha : a < n) (hb : b < n) (hn : n ≤ 20000) (hk : k ≤ 1000000) : Calls Tryd.prog 130 #[.slice (some ⟨g, 0, none⟩) n c, .int .i64 (a : Int), .int .i64 (b : Int), .pointer (some ⟨sb, 0, none⟩)] w fun e w' => e = .returned (.tuple #[.int .i64 (((Go.Sort.order2 ltN d a b k).1 : Nat) : Int), .int .i64 (((Go.Sort.order2 ltN d a b k).2.1 : Nat) : Int)]) ∧ VOwn 3 1 sb w' (some ⟨sb, 0, none⟩) sb 1 1 (fun _ => .int .i64 (((Go.Sort.order2 ltN d a b k).2.2 : Nat) : Int)) ∧ w.grownBy w' (some sb) := by
  obtain ⟨R, hR⟩ : ∃ R, R = Go.Sort.order2 ltN d a b k := ⟨_, rfl⟩
  have BI := Lib.hid (show a < n ∧ b < n ∧ n ≤ 20000 ∧ k ≤ 1000000 from ⟨ha, hb, hn, hk⟩)
  have HB := Lib.hid (Below.refl w.heap.size w)
  clear ha hb hn hk
  by_cases hl : d[b]! < d[a]!
  · have LQ := Lib.hid (decide_eq_true hl)
    have RX := Lib.hid (show (b, a, k + 1) = R by rw [hR]; exact (if_pos (by simp only [ltN]; exact LQ.out)).symm)
    rw [← hR]
    clear hR hl
    go_enter Tryd.func130, Tryd.ntmps130
    go_upto_region 1 with fail
    refine wp_region_T (Φ := fun X => (NRow B X g n c d ∧ d.size = n) ∧ Below w.heap.size w X) (S := fun X => (NRow B X g n c d ∧ d.size = n) ∧ Below w.heap.size w X) (Lib.hid ⟨N.out, HB.out⟩) (fun X h => ⟨⟨h.1.1.below ((Below.refl _ _).drew), h.1.2⟩, h.2.drew⟩) (fun X h => h) (by kernel_rfl) ?_
    clear N HB
    intro wx TT S0
    have N := Lib.hid TT.out.1
    have HB := Lib.hid TT.out.2
    clear TT
    refine hm_run 0 10 (.slice (some ⟨g, 0, none⟩) n c) rfl rfl (by kernel_rfl) (by kernel_rfl) (by kernel_rfl) (fun _ _ _ h => h) rfl (fun _ _ => rfl) S0.out ?_
    try simp only [Act.put, lqA, lqB, lqC, lqD, lqE, lqF]
    refine hm_run 1 11 (.int .i64 ((b : Nat) : Int)) rfl rfl (by kernel_rfl) (by kernel_rfl) (by kernel_rfl) (fun _ _ _ h => h) rfl (fun _ _ => rfl) S0.out ?_
    try simp only [Act.put, lqA, lqB, lqC, lqD, lqE, lqF]
    refine hm_run 2 12 (.pointer (some ⟨g, 0 + (b) * 1, none⟩)) rfl rfl (by kernel_rfl) (by kernel_rfl) (by kernel_rfl) (fun _ _ _ h => h) rfl (fun W _ => exec_ix rfl (run_ix (k := 1) (j := b) Tryd.underlying54 (by kernel_rfl) (by have := BI.out; omega) rfl W)) S0.out ?_
    try simp only [Act.put, lqA, lqB, lqC, lqD, lqE, lqF]
    refine hm_run 3 13 (.int .u64 ((d[b]! : Nat) : Int)) rfl rfl (by kernel_rfl) (by kernel_rfl) (by kernel_rfl) (fun _ _ _ h => h) rfl (fun W hW => exec_load rfl (run_load_one Tryd.underlying59 rfl (cell_dn (Lib.hid hW.1) (by have := BI.out; omega)))) S0.out ?_
    try simp only [Act.put, lqA, lqB, lqC, lqD, lqE, lqF]
    refine hm_run 4 14 (.slice (some ⟨g, 0, none⟩) n c) rfl rfl (by kernel_rfl) (by kernel_rfl) (by kernel_rfl) (fun _ _ _ h => h) rfl (fun _ _ => rfl) S0.out ?_
    try simp only [Act.put, lqA, lqB, lqC, lqD, lqE, lqF]
    refine hm_run 5 15 (.int .i64 ((a : Nat) : Int)) rfl rfl (by kernel_rfl) (by kernel_rfl) (by kernel_rfl) (fun _ _ _ h => h) rfl (fun _ _ => rfl) S0.out ?_
    try simp only [Act.put, lqA, lqB, lqC, lqD, lqE, lqF]
    refine hm_run 6 16 (.pointer (some ⟨g, 0 + (a) * 1, none⟩)) rfl rfl (by kernel_rfl) (by kernel_rfl) (by kernel_rfl) (fun _ _ _ h => h) rfl (fun W _ => exec_ix rfl (run_ix (k := 1) (j := a) Tryd.underlying54 (by kernel_rfl) (by have := BI.out; omega) rfl W)) S0.out ?_
    try simp only [Act.put, lqA, lqB, lqC, lqD, lqE, lqF]
    refine hm_run 7 17 (.int .u64 ((d[a]! : Nat) : Int)) rfl rfl (by kernel_rfl) (by kernel_rfl) (by kernel_rfl) (fun _ _ _ h => h) rfl (fun W hW => exec_load rfl (run_load_one Tryd.underlying59 rfl (cell_dn (Lib.hid hW.1) (by have := BI.out; omega)))) S0.out ?_
    try simp only [Act.put, lqA, lqB, lqC, lqD, lqE, lqF]
    refine hm_one (i := 8) (by kernel_rfl) ?_
    refine hm_step 8 rfl (by kernel_rfl) fun K hK => ?_
    try simp only [Act.put, lqA, lqB, lqC, lqD, lqE, lqF]
    go_simp
    go_at_call 58
    refine (less_any _ _ _).mono ?_
    rintro e w7 ⟨rfl, rfl⟩
    rw [LQ.out]
    refine hK _ _ S0.out ?_
    clear hK K
    try simp only [Act.put, lqA, lqB, lqC, lqD, lqE, lqF]
    refine wpAnyH_done (by kernel_rfl) ?_ _
    have X1 := Lib.hid (X.out.below HB.out)
    have GW := Lib.hid (grown_of_below HB.out (some sb))
    have HC := Lib.hid (cell_v0 X1 (by decide))
    clear X HB N
    go_wp2_with (first | ((with_reducible refine wpList_at 21 rfl ?_); refine wpList_kn rfl (.int .i64 ((k : Nat) : Int)) (by exact exec_load rfl (run_load_one Tryd.underlying3 rfl HC.out)) ?_) | ((with_reducible refine wpList_at 22 rfl ?_); refine wpList_kn rfl (.int .i64 ((k + 1 : Nat) : Int)) (by exact exec_add rfl rfl rfl (by have := BI.out; rw [IntKind.wrap_i64]; omega)) ?_) | ((with_reducible refine wpList_atn rfl ?_); refine wpList_put0 (v := .int .i64 ((k + 1 : Nat) : Int)) rfl 3 (.tmp 23) (.tmp 22) rfl X1 rfl rfl (by kernel_rfl) rfl rfl (by decide) ?_))
    ((try simp only [Exit.inBlock, Exit.then]); refine bodyPost_ret (results_tmp2 rfl _ _ _) rfl ?_)
    exact ⟨by rw [← RX.out]; rfl, by rw [← RX.out]; exact (vset0 X1.out _ rfl).to (fun i hi => by rw [if_pos (by omega)]; rfl), GW.out.trans (grownBy_setCell' _ _ _)⟩
  · have LQ := Lib.hid (decide_eq_false hl)
    have RX := Lib.hid (show (a, b, k) = R by rw [hR]; exact (if_neg (by simp only [ltN]; rw [LQ.out]; decide)).symm)
    rw [← hR]
    clear hR hl
    go_enter Tryd.func130, Tryd.ntmps130
    go_upto_region 1 with fail
    refine wp_region_T (Φ := fun X => (NRow B X g n c d ∧ d.size = n) ∧ Below w.heap.size w X) (S := fun X => (NRow B X g n c d ∧ d.size = n) ∧ Below w.heap.size w X) (Lib.hid ⟨N.out, HB.out⟩) (fun X h => ⟨⟨h.1.1.below ((Below.refl _ _).drew), h.1.2⟩, h.2.drew⟩) (fun X h => h) (by kernel_rfl) ?_
    clear N HB
    intro wx TT S0
    have N := Lib.hid TT.out.1
    have HB := Lib.hid TT.out.2
    clear TT
    refine hm_run 0 10 (.slice (some ⟨g, 0, none⟩) n c) rfl rfl (by kernel_rfl) (by kernel_rfl) (by kernel_rfl) (fun _ _ _ h => h) rfl (fun _ _ => rfl) S0.out ?_
    try simp only [Act.put, lqA, lqB, lqC, lqD, lqE, lqF]
    refine hm_run 1 11 (.int .i64 ((b : Nat) : Int)) rfl rfl (by kernel_rfl) (by kernel_rfl) (by kernel_rfl) (fun _ _ _ h => h) rfl (fun _ _ => rfl) S0.out ?_
    try simp only [Act.put, lqA, lqB, lqC, lqD, lqE, lqF]
    refine hm_run 2 12 (.pointer (some ⟨g, 0 + (b) * 1, none⟩)) rfl rfl (by kernel_rfl) (by kernel_rfl) (by kernel_rfl) (fun _ _ _ h => h) rfl (fun W _ => exec_ix rfl (run_ix (k := 1) (j := b) Tryd.underlying54 (by kernel_rfl) (by have := BI.out; omega) rfl W)) S0.out ?_
    try simp only [Act.put, lqA, lqB, lqC, lqD, lqE, lqF]
    refine hm_run 3 13 (.int .u64 ((d[b]! : Nat) : Int)) rfl rfl (by kernel_rfl) (by kernel_rfl) (by kernel_rfl) (fun _ _ _ h => h) rfl (fun W hW => exec_load rfl (run_load_one Tryd.underlying59 rfl (cell_dn (Lib.hid hW.1) (by have := BI.out; omega)))) S0.out ?_
    try simp only [Act.put, lqA, lqB, lqC, lqD, lqE, lqF]
    refine hm_run 4 14 (.slice (some ⟨g, 0, none⟩) n c) rfl rfl (by kernel_rfl) (by kernel_rfl) (by kernel_rfl) (fun _ _ _ h => h) rfl (fun _ _ => rfl) S0.out ?_
    try simp only [Act.put, lqA, lqB, lqC, lqD, lqE, lqF]
    refine hm_run 5 15 (.int .i64 ((a : Nat) : Int)) rfl rfl (by kernel_rfl) (by kernel_rfl) (by kernel_rfl) (fun _ _ _ h => h) rfl (fun _ _ => rfl) S0.out ?_
    try simp only [Act.put, lqA, lqB, lqC, lqD, lqE, lqF]
    refine hm_run 6 16 (.pointer (some ⟨g, 0 + (a) * 1, none⟩)) rfl rfl (by kernel_rfl) (by kernel_rfl) (by kernel_rfl) (fun _ _ _ h => h) rfl (fun W _ => exec_ix rfl (run_ix (k := 1) (j := a) Tryd.underlying54 (by kernel_rfl) (by have := BI.out; omega) rfl W)) S0.out ?_
    try simp only [Act.put, lqA, lqB, lqC, lqD, lqE, lqF]
    refine hm_run 7 17 (.int .u64 ((d[a]! : Nat) : Int)) rfl rfl (by kernel_rfl) (by kernel_rfl) (by kernel_rfl) (fun _ _ _ h => h) rfl (fun W hW => exec_load rfl (run_load_one Tryd.underlying59 rfl (cell_dn (Lib.hid hW.1) (by have := BI.out; omega)))) S0.out ?_
    try simp only [Act.put, lqA, lqB, lqC, lqD, lqE, lqF]
    refine hm_one (i := 8) (by kernel_rfl) ?_
    refine hm_step 8 rfl (by kernel_rfl) fun K hK => ?_
    try simp only [Act.put, lqA, lqB, lqC, lqD, lqE, lqF]
    go_simp
    go_at_call 58
    refine (less_any _ _ _).mono ?_
    rintro e w7 ⟨rfl, rfl⟩
    rw [LQ.out]
    refine hK _ _ S0.out ?_
    clear hK K
    try simp only [Act.put, lqA, lqB, lqC, lqD, lqE, lqF]
    refine wpAnyH_done (by kernel_rfl) ?_ _
    go_wp2_with fail
    ((try simp only [Exit.inBlock, Exit.then]); refine bodyPost_ret (results_tmp2 rfl _ _ _) rfl ?_)
    exact ⟨by rw [← RX.out]; rfl, by rw [← RX.out]; exact X.out.below HB.out, grown_of_below HB.out (some sb)⟩
end Go.Proofs.YtoopcmcmjaikhaaDoor
