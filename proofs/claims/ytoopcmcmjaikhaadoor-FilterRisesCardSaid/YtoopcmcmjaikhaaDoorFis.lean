/- slices.IsSorted of numbers that rise. -/
import Derived.Test.YtoopcmcmjaikhaaDoorFvs
set_option linter.unusedSimpArgs false
set_option linter.unusedVariables false
set_option maxRecDepth 100000
namespace Go.Proofs.YtoopcmcmjaikhaaDoor
open Go.RowKit Go.Lib

set_option maxHeartbeats 8000000 in
theorem issort_pos {w : World} {B g n c : Nat} {d : Array Nat} (N : Hid (NRow B w g n c d ∧ d.size = n)) (h0 : 0 < n) (hs : ∀ i, 0 < i → i < n → d[i - 1]! ≤ d[i]!) (hn : n ≤ 20000) : Calls Tryd.prog 28 #[.slice (some ⟨g, 0, none⟩) n c] w fun e w' => e = .returned (.bool true) ∧ Below w.heap.size w w' := by
  have HS := Lib.hid hs
  have BI := Lib.hid (And.intro h0 hn)
  have HB := Lib.hid (Below.refl w.heap.size w)
  clear hs h0 hn
  go_enter Tryd.func28, Tryd.ntmps28
  go_upto_region 2 with ((with_reducible refine wpList_at 6 rfl ?_); refine wpList_kn rfl (.int .i64 ((n - 1 : Nat) : Int)) (by exact exec_sub rfl rfl rfl (by have := BI.out; rw [IntKind.wrap_i64]; omega)) ?_)
  go_loopg [3] (n - 1) (fun k s3 wr => k ≤ n - 1 ∧ s3 = .int .i64 (k : Int) ∧ Hid (NRow B wr g n c d ∧ d.size = n) ∧ Hid (Below w.heap.size w wr))
  case atStart => exact ⟨Nat.le_refl _, rfl, N, HB⟩
  case round =>
    clear N HB
    obtain ⟨hq, rfl, N, HB⟩ := hrel
    obtain ⟨q, rfl⟩ : ∃ q : Nat, q = gk := ⟨_, rfl⟩
    obtain ⟨D, hD⟩ : ∃ D, D = wr := ⟨_, rfl⟩
    subst hD
    by_cases h0 : 0 < q
    · have GT := Lib.hid (show decide ((0 : Int) < (q : Int)) = true from decide_eq_true (by omega))
      have LQ := Lib.hid (show decide (d[q]! < d[q - 1]!) = false from decide_eq_false (Nat.not_lt.2 (HS.out q h0 (by have := BI.out; omega))))
      have BND := Lib.hid (show 0 < q ∧ q < n ∧ n ≤ 20000 ∧ q ≤ n - 1 by have := BI.out; omega)
      clear h0 hq
      go_upto_region 4 with (first | ((with_reducible refine wpList_at 8 rfl ?_); refine wpList_kn rfl (.bool true) (by exact exec_gtrN rfl rfl rfl GT.out) ?_))
      refine wp_region_T (Φ := fun X => (NRow B X g n c d ∧ d.size = n) ∧ Below w.heap.size w X) (S := fun X => (NRow B X g n c d ∧ d.size = n) ∧ Below w.heap.size w X) (Lib.hid ⟨N.out, HB.out⟩) (fun X h => ⟨⟨h.1.1.below ((Below.refl _ _).drew), h.1.2⟩, h.2.drew⟩) (fun X h => h) (by kernel_rfl) ?_
      clear N HB
      intro wx TT S0
      have N := Lib.hid TT.out.1
      have HB := Lib.hid TT.out.2
      clear TT
      refine hm_run 0 11 (.slice (some ⟨g, 0, none⟩) n c) rfl rfl (by kernel_rfl) (by kernel_rfl) (by kernel_rfl) (fun _ _ _ h => h) rfl (fun _ _ => rfl) S0.out ?_
      try simp only [Act.put, List.getElem_toArray, List.getElem_cons_succ, List.getElem_cons_zero, List.setIfInBounds_toArray, List.set_cons_zero, List.set_cons_succ]
      refine hm_run 1 12 (.int .i64 ((q : Nat) : Int)) rfl rfl (by kernel_rfl) (by kernel_rfl) (by kernel_rfl) (fun _ _ _ h => h) rfl (fun _ _ => rfl) S0.out ?_
      try simp only [Act.put, List.getElem_toArray, List.getElem_cons_succ, List.getElem_cons_zero, List.setIfInBounds_toArray, List.set_cons_zero, List.set_cons_succ]
      refine hm_run 2 13 (.pointer (some ⟨g, 0 + (q) * 1, none⟩)) rfl rfl (by kernel_rfl) (by kernel_rfl) (by kernel_rfl) (fun _ _ _ h => h) rfl (fun W _ => exec_ix rfl (run_ix (k := 1) (j := q) Tryd.underlying54 (by kernel_rfl) (by have := BND.out; omega) rfl W)) S0.out ?_
      try simp only [Act.put, List.getElem_toArray, List.getElem_cons_succ, List.getElem_cons_zero, List.setIfInBounds_toArray, List.set_cons_zero, List.set_cons_succ]
      refine hm_run 3 14 (.int .u64 ((d[q]! : Nat) : Int)) rfl rfl (by kernel_rfl) (by kernel_rfl) (by kernel_rfl) (fun _ _ _ h => h) rfl (fun W hW => exec_load rfl (run_load_one Tryd.underlying59 rfl (cell_dn (Lib.hid hW.1) (by have := BND.out; omega)))) S0.out ?_
      try simp only [Act.put, List.getElem_toArray, List.getElem_cons_succ, List.getElem_cons_zero, List.setIfInBounds_toArray, List.set_cons_zero, List.set_cons_succ]
      refine hm_run 4 15 (.slice (some ⟨g, 0, none⟩) n c) rfl rfl (by kernel_rfl) (by kernel_rfl) (by kernel_rfl) (fun _ _ _ h => h) rfl (fun _ _ => rfl) S0.out ?_
      try simp only [Act.put, List.getElem_toArray, List.getElem_cons_succ, List.getElem_cons_zero, List.setIfInBounds_toArray, List.set_cons_zero, List.set_cons_succ]
      refine hm_run 5 16 (.int .i64 ((q : Nat) : Int)) rfl rfl (by kernel_rfl) (by kernel_rfl) (by kernel_rfl) (fun _ _ _ h => h) rfl (fun _ _ => rfl) S0.out ?_
      try simp only [Act.put, List.getElem_toArray, List.getElem_cons_succ, List.getElem_cons_zero, List.setIfInBounds_toArray, List.set_cons_zero, List.set_cons_succ]
      refine hm_run 6 17 (.int .i64 (((q) - 1 : Nat) : Int)) rfl rfl (by kernel_rfl) (by kernel_rfl) (by kernel_rfl) (fun _ _ _ h => h) rfl (fun _ _ => exec_sub rfl rfl rfl (by have := BND.out; rw [IntKind.wrap_i64]; omega)) S0.out ?_
      try simp only [Act.put, List.getElem_toArray, List.getElem_cons_succ, List.getElem_cons_zero, List.setIfInBounds_toArray, List.set_cons_zero, List.set_cons_succ]
      refine hm_run 7 18 (.pointer (some ⟨g, 0 + ((q) - 1) * 1, none⟩)) rfl rfl (by kernel_rfl) (by kernel_rfl) (by kernel_rfl) (fun _ _ _ h => h) rfl (fun W _ => exec_ix rfl (run_ix (k := 1) (j := (q) - 1) Tryd.underlying54 (by kernel_rfl) (by have := BND.out; omega) rfl W)) S0.out ?_
      try simp only [Act.put, List.getElem_toArray, List.getElem_cons_succ, List.getElem_cons_zero, List.setIfInBounds_toArray, List.set_cons_zero, List.set_cons_succ]
      refine hm_run 8 19 (.int .u64 ((d[(q) - 1]! : Nat) : Int)) rfl rfl (by kernel_rfl) (by kernel_rfl) (by kernel_rfl) (fun _ _ _ h => h) rfl (fun W hW => exec_load rfl (run_load_one Tryd.underlying59 rfl (cell_dn (Lib.hid hW.1) (by have := BND.out; omega)))) S0.out ?_
      try simp only [Act.put, List.getElem_toArray, List.getElem_cons_succ, List.getElem_cons_zero, List.setIfInBounds_toArray, List.set_cons_zero, List.set_cons_succ]
      refine hm_one (i := 9) (by kernel_rfl) ?_
      refine hm_step 9 rfl (by kernel_rfl) fun K hK => ?_
      try simp only [Act.put, List.getElem_toArray, List.getElem_cons_succ, List.getElem_cons_zero, List.setIfInBounds_toArray, List.set_cons_zero, List.set_cons_succ]
      go_simp
      go_at_call 58
      refine (less_any _ _ _).mono ?_
      rintro e w7 ⟨rfl, rfl⟩
      rw [LQ.out]
      refine hK _ _ S0.out ?_
      clear hK K
      try simp only [Act.put, List.getElem_toArray, List.getElem_cons_succ, List.getElem_cons_zero, List.setIfInBounds_toArray, List.set_cons_zero, List.set_cons_succ]
      refine wpAnyH_done (by kernel_rfl) ?_ _
      go_wp2_with ((with_reducible refine wpList_at 10 rfl ?_); refine wpList_kn rfl (.int .i64 ((q - 1 : Nat) : Int)) (by exact exec_sub rfl rfl rfl (by have := BND.out; rw [IntKind.wrap_i64]; omega)) ?_)
      go_roundg (q - 1)
      case measure => have := BND.out; omega
      case rel => exact ⟨by have := BND.out; omega, rfl, N, HB⟩
    · have GT := Lib.hid (show decide ((0 : Int) < (q : Int)) = false from decide_eq_false (by omega))
      clear h0 hq
      go_wp2_with ((with_reducible refine wpList_at 8 rfl ?_); refine wpList_kn rfl (.bool false) (by exact exec_gtrN rfl rfl rfl GT.out) ?_)
      go_ret
      exact ⟨rfl, HB.out⟩
set_option maxHeartbeats 8000000 in
theorem issort_nil {w : World} {p : Option Addr} {c : Nat} : Calls Tryd.prog 28 #[.slice p 0 c] w fun e w' => e = .returned (.bool true) ∧ Below w.heap.size w w' := by
  go_enter Tryd.func28, Tryd.ntmps28
  go_wp2
  go_loop [3] (fun i => i = .int .i64 (-1)) (fun _ => 0)
  case atStart => rfl
  case round =>
    obtain rfl := hrel
    go_wp2
    go_ret
    exact ⟨rfl, Below.refl _ _⟩
theorem issort_any {w : World} {B g n c : Nat} {p : Option Addr} {l : List Nat} (N : VOwn 59 1 B w p g n c (wv (lf l))) (hl : l.length = n) (hs : l.Pairwise (· ≤ ·)) (hn : n ≤ 20000) : Calls Tryd.prog 28 #[.slice p n c] w fun e w' => e = .returned (.bool true) ∧ Below w.heap.size w w' := by
  by_cases h0 : n = 0
  · subst h0
    exact issort_nil
  · obtain rfl : p = some ⟨g, 0, none⟩ := N.row.head (by omega)
    have e : ∀ i, i < n * 1 → wv (lf l) i = dv l.toArray i := fun i hi => by
      unfold wv dv lf
      rw [List.getElem!_toArray, List.getElem!_eq_getElem?_getD]
      rfl
    refine issort_pos (d := l.toArray) (Lib.hid ⟨N.to e, by rw [List.size_toArray, hl]⟩) (by omega) (fun i h1 h2 => ?_) hn
    have g1 : l.toArray[i - 1]! = l[i - 1] := by rw [List.getElem!_toArray, getElem!_pos l (i - 1) (by omega)]
    have g2 : l.toArray[i]! = l[i] := by rw [List.getElem!_toArray, getElem!_pos l i (by omega)]
    rw [g1, g2]
    exact List.pairwise_iff_getElem.1 hs (i - 1) i (by omega) (by omega) (by omega)
end Go.Proofs.YtoopcmcmjaikhaaDoor
