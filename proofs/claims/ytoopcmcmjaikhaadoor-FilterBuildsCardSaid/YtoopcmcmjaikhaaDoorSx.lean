/- The sort of uint64: heapSort. -/
import Derived.Test.YtoopcmcmjaikhaaDoorSw
set_option linter.unusedSimpArgs false
set_option linter.unusedVariables false
set_option maxRecDepth 100000
namespace Go.Proofs.YtoopcmcmjaikhaaDoor
open Go.RowKit Go.Lib

theorem exec_quo {o : Oper} {ev : Operand → Value} {W : World} {x y : Operand} {m q z : Nat} (ho : o.op = .binOp .quo 3 x y 3) (hx : ev x = .int .i64 (m : Int)) (hy : ev y = .int .i64 (q : Int)) (hq : 0 < q) (hz : m / q = z) (hm : m ≤ 1000000) : (execOp ev o).run Tryd.prog W = .ok (.value (.int .i64 (z : Int))) W := by
  have h0 : ¬ q = 0 := by omega
  have h1 : z ≤ m := by rw [← hz]; exact Nat.div_le_self _ _
  have e0 : (m : Int) / (q : Int) = (z : Int) := by rw [← hz]; rfl
  have e : IntKind.i64.wrap (z : Int) = (z : Int) := by rw [IntKind.wrap_i64]; omega
  unfold execOp
  simp [ho, hx, hy, go_sem, Tryd.underlying3, h0, e0, e]
theorem sift0_any {w : World} {B g n c hi first : Nat} {d : Array Nat} (N : Hid (NRow B w g n c d ∧ d.size = n)) (hf : first + hi ≤ n) (hn : n ≤ 20000) : Calls Tryd.prog 122 #[.slice (some ⟨g, 0, none⟩) n c, .int .i64 0, .int .i64 (hi : Int), .int .i64 (first : Int)] w fun e w' => e = .returned (.tuple #[]) ∧ (NRow B w' g n c (Go.Sort.siftDown ltN hi first 0 d) ∧ (Go.Sort.siftDown ltN hi first 0 d).size = n) ∧ Below B w w' := sift_any (lo := 0) N hf (by omega) hn
set_option maxHeartbeats 16000000 in
theorem heap64_any {w : World} {B g n c a b : Nat} {d : Array Nat} (N : Hid (NRow B w g n c d ∧ d.size = n)) (hab : a < b) (hbn : b ≤ n) (hn : n ≤ 20000) : Calls Tryd.prog 100 #[.slice (some ⟨g, 0, none⟩) n c, .int .i64 (a : Int), .int .i64 (b : Int)] w fun e w' => e = .returned (.tuple #[]) ∧ (NRow B w' g n c (Go.Sort.heapSort ltN d a b) ∧ (Go.Sort.heapSort ltN d a b).size = n) ∧ Below B w w' := by
  obtain ⟨R, hR⟩ : ∃ R, R = Go.Sort.heapSort ltN d a b := ⟨_, rfl⟩
  obtain ⟨hi, hhi⟩ : ∃ hi, hi = b - a := ⟨_, rfl⟩
  obtain ⟨k0, hk0⟩ : ∃ k, k = (hi - 1) / 2 + 1 := ⟨_, rfl⟩
  obtain ⟨R1, hR1⟩ : ∃ R1, R1 = Go.Sort.heapBuild ltN hi a k0 d := ⟨_, rfl⟩
  have IN := Lib.hid hR1.symm
  have OUT := Lib.hid (show Go.Sort.heapPop ltN a hi R1 = R by rw [hR1, hR, Go.Sort.heapSort, ← hhi, ← hk0])
  have BI := Lib.hid (show a < b ∧ b ≤ n ∧ n ≤ 20000 ∧ hi = b - a ∧ k0 = (hi - 1) / 2 + 1 from ⟨hab, hbn, hn, hhi, hk0⟩)
  have HB := Lib.hid (Below.refl B w)
  rw [← hR]
  clear hab hbn hn hR hhi hk0 hR1
  go_enter Tryd.func100, Tryd.ntmps100
  go_upto_region 4 with (first
    | ((with_reducible refine wpList_at 14 rfl ?_); refine wpList_kn rfl (.int .i64 (hi : Int)) (by exact exec_sub rfl rfl rfl (by have := BI.out; rw [IntKind.wrap_i64]; omega)) ?_)
    | ((with_reducible refine wpList_at 16 rfl ?_); refine wpList_kn rfl (.int .i64 ((hi - 1 : Nat) : Int)) (by exact exec_sub rfl rfl rfl (by have := BI.out; rw [IntKind.wrap_i64]; omega)) ?_)
    | ((with_reducible refine wpList_at 17 rfl ?_); refine wpList_kn rfl (.int .i64 (((hi - 1) / 2 : Nat) : Int)) (by exact exec_quo (q := 2) rfl rfl rfl (by omega) rfl (by have := BI.out; omega)) ?_))
  go_loopg [9] k0 (fun k s9 wr => ∃ (d2 : Array Nat), k ≤ k0 ∧ s9 = .int .i64 ((k : Int) - 1) ∧ Hid (NRow B wr g n c d2 ∧ d2.size = n) ∧ Hid (Go.Sort.heapBuild ltN hi a k d2 = R1) ∧ Hid (Below B w wr))
  case atStart => exact ⟨d, Nat.le_refl _, congrArg (Value.int .i64) (by have := BI.out; omega), N, IN, HB⟩
  case round =>
    clear N IN HB
    obtain ⟨d2, hk, rfl, N, IN, HB⟩ := hrel
    obtain ⟨K, rfl⟩ : ∃ K : Nat, K = gk := ⟨_, rfl⟩
    by_cases hK : K = 0
    · subst hK
      have RX := Lib.hid (show d2 = R1 by have h := IN.out; rw [Go.Sort.heapBuild] at h; exact h)
      have OUT2 := Lib.hid (show Go.Sort.heapPop ltN a hi d2 = R by rw [RX.out]; exact OUT.out)
      have GE := Lib.hid (show decide ((0 : Int) ≤ ((0 : Nat) : Int) - 1) = false from by decide)
      clear IN hk RX OUT
      go_upto_region 8 with (first
        | ((with_reducible refine wpList_at 19 rfl ?_); refine wpList_kn rfl (.bool false) (by exact exec_geqN rfl rfl rfl GE.out) ?_)
        | ((with_reducible refine wpList_at 28 rfl ?_); refine wpList_kn rfl (.int .i64 ((hi : Int) - 1)) (by exact exec_sub rfl rfl rfl (by have := BI.out; rw [IntKind.wrap_i64]; omega)) ?_))
      go_loopg [10] hi (fun k s10 wr => ∃ (d2 : Array Nat), k ≤ hi ∧ s10 = .int .i64 ((k : Int) - 1) ∧ Hid (NRow B wr g n c d2 ∧ d2.size = n) ∧ Hid (Go.Sort.heapPop ltN a k d2 = R) ∧ Hid (Below B w wr))
      case atStart => exact ⟨d2, Nat.le_refl _, rfl, N, OUT2, HB⟩
      case round =>
        clear N HB OUT2
        obtain ⟨d2, hk, rfl, N, IN, HB⟩ := hrel
        obtain ⟨K, rfl⟩ : ∃ K : Nat, K = gk := ⟨_, rfl⟩
        by_cases hK : K = 0
        · subst hK
          have RX := Lib.hid (show d2 = R by have h := IN.out; rw [Go.Sort.heapPop] at h; exact h)
          have GE := Lib.hid (show decide ((0 : Int) ≤ ((0 : Nat) : Int) - 1) = false from by decide)
          clear IN hk
          go_wp2_with (first
            | ((with_reducible refine wpList_at 30 rfl ?_); refine wpList_kn rfl (.bool false) (by exact exec_geqN rfl rfl rfl GE.out) ?_))
          go_end0
          exact ⟨rfl, by rw [← RX.out]; exact N.out, HB.out⟩
        · obtain ⟨k, rfl⟩ : ∃ k, K = k + 1 := ⟨K - 1, by omega⟩
          have e : ((k + 1 : Nat) : Int) - 1 = (k : Int) := by omega
          rw [e]
          have GE := Lib.hid (show decide ((0 : Int) ≤ (k : Int)) = true from decide_eq_true (by omega))
          have BND := Lib.hid (show k + 1 ≤ hi ∧ a < b ∧ b ≤ n ∧ n ≤ 20000 ∧ hi = b - a by have := BI.out; omega)
          have INX := Lib.hid (show Go.Sort.heapPop ltN a k (Go.Sort.siftDown ltN k a 0 (Go.Sort.swp d2 a (a + k))) = R by have h := IN.out; rw [Go.Sort.heapPop] at h; exact h)
          clear IN hk hK e
          go_upto_region 10 with ((with_reducible refine wpList_at 30 rfl ?_); refine wpList_kn rfl (.bool true) (by exact exec_geqN rfl rfl rfl GE.out) ?_)
          refine wp_region_T (Φ := fun X => (NRow B X g n c d2 ∧ d2.size = n) ∧ Below B w X) (S := fun _ => True) (Lib.hid ⟨N.out, HB.out⟩) (fun X h => ⟨⟨h.1.1.below ((Below.refl _ _).drew), h.1.2⟩, h.2.drew⟩) (fun _ _ => trivial) (by kernel_rfl) ?_
          clear N HB
          intro wx TT S0
          have N := Lib.hid TT.out.1
          have HB := Lib.hid TT.out.2
          clear TT
          refine hm_run 0 33 (.slice (some ⟨g, 0, none⟩) n c) rfl rfl (by kernel_rfl) (by kernel_rfl) (by kernel_rfl) (fun _ _ _ h => h) rfl (fun _ _ => rfl) trivial ?_
          try simp only [Act.put, lqA, lqB, lqC, lqD, lqE, lqF]
          refine hm_run 1 34 (.int .i64 ((a : Nat) : Int)) rfl rfl (by kernel_rfl) (by kernel_rfl) (by kernel_rfl) (fun _ _ _ h => h) rfl (fun _ _ => rfl) trivial ?_
          try simp only [Act.put, lqA, lqB, lqC, lqD, lqE, lqF]
          refine hm_run 2 35 (.slice (some ⟨g, 0, none⟩) n c) rfl rfl (by kernel_rfl) (by kernel_rfl) (by kernel_rfl) (fun _ _ _ h => h) rfl (fun _ _ => rfl) trivial ?_
          try simp only [Act.put, lqA, lqB, lqC, lqD, lqE, lqF]
          refine hm_run 3 36 (.int .i64 ((a : Nat) : Int)) rfl rfl (by kernel_rfl) (by kernel_rfl) (by kernel_rfl) (fun _ _ _ h => h) rfl (fun _ _ => rfl) trivial ?_
          try simp only [Act.put, lqA, lqB, lqC, lqD, lqE, lqF]
          refine hm_run 4 37 (.int .i64 ((k : Nat) : Int)) rfl rfl (by kernel_rfl) (by kernel_rfl) (by kernel_rfl) (fun _ _ _ h => h) rfl (fun _ _ => rfl) trivial ?_
          try simp only [Act.put, lqA, lqB, lqC, lqD, lqE, lqF]
          refine hm_run 5 38 (.int .i64 ((a + k : Nat) : Int)) rfl rfl (by kernel_rfl) (by kernel_rfl) (by kernel_rfl) (fun _ _ _ h => h) rfl (fun _ _ => exec_add rfl rfl rfl (by have := BND.out; rw [IntKind.wrap_i64]; omega)) trivial ?_
          try simp only [Act.put, lqA, lqB, lqC, lqD, lqE, lqF]
          refine hm_run 6 39 (.slice (some ⟨g, 0, none⟩) n c) rfl rfl (by kernel_rfl) (by kernel_rfl) (by kernel_rfl) (fun _ _ _ h => h) rfl (fun _ _ => rfl) trivial ?_
          try simp only [Act.put, lqA, lqB, lqC, lqD, lqE, lqF]
          refine hm_run 7 40 (.int .i64 ((a : Nat) : Int)) rfl rfl (by kernel_rfl) (by kernel_rfl) (by kernel_rfl) (fun _ _ _ h => h) rfl (fun _ _ => rfl) trivial ?_
          try simp only [Act.put, lqA, lqB, lqC, lqD, lqE, lqF]
          refine hm_run 8 41 (.int .i64 ((k : Nat) : Int)) rfl rfl (by kernel_rfl) (by kernel_rfl) (by kernel_rfl) (fun _ _ _ h => h) rfl (fun _ _ => rfl) trivial ?_
          try simp only [Act.put, lqA, lqB, lqC, lqD, lqE, lqF]
          refine hm_run 9 42 (.int .i64 ((a + k : Nat) : Int)) rfl rfl (by kernel_rfl) (by kernel_rfl) (by kernel_rfl) (fun _ _ _ h => h) rfl (fun _ _ => exec_add rfl rfl rfl (by have := BND.out; rw [IntKind.wrap_i64]; omega)) trivial ?_
          try simp only [Act.put, lqA, lqB, lqC, lqD, lqE, lqF]
          refine hm_run 10 43 (.pointer (some ⟨g, 0 + (a + k) * 1, none⟩)) rfl rfl (by kernel_rfl) (by kernel_rfl) (by kernel_rfl) (fun _ _ _ h => h) rfl (fun W _ => exec_ix rfl (run_ix (k := 1) (j := a + k) Tryd.underlying54 (by kernel_rfl) (by have := BND.out; omega) rfl W)) trivial ?_
          try simp only [Act.put, lqA, lqB, lqC, lqD, lqE, lqF]
          refine hm_run 12 45 (.slice (some ⟨g, 0, none⟩) n c) rfl rfl (by kernel_rfl) (by kernel_rfl) (by kernel_rfl) (fun _ _ _ h => h) rfl (fun _ _ => rfl) trivial ?_
          try simp only [Act.put, lqA, lqB, lqC, lqD, lqE, lqF]
          refine hm_run 13 46 (.int .i64 ((a : Nat) : Int)) rfl rfl (by kernel_rfl) (by kernel_rfl) (by kernel_rfl) (fun _ _ _ h => h) rfl (fun _ _ => rfl) trivial ?_
          try simp only [Act.put, lqA, lqB, lqC, lqD, lqE, lqF]
          refine hm_run 14 47 (.pointer (some ⟨g, 0 + (a) * 1, none⟩)) rfl rfl (by kernel_rfl) (by kernel_rfl) (by kernel_rfl) (fun _ _ _ h => h) rfl (fun W _ => exec_ix rfl (run_ix (k := 1) (j := a) Tryd.underlying54 (by kernel_rfl) (by have := BND.out; omega) rfl W)) trivial ?_
          try simp only [Act.put, lqA, lqB, lqC, lqD, lqE, lqF]
          refine hm_two (i := 11) (j := 15) (by kernel_rfl) ?_ ?_
          · refine hm_step 11 rfl (by kernel_rfl) fun K hK => ?_
            try simp only [Act.put, lqA, lqB, lqC, lqD, lqE, lqF]
            refine mo_known (.int .u64 ((d2[a + k]! : Nat) : Int)) _ (exec_load rfl (run_load_one Tryd.underlying59 rfl (cell_dn N (by have := BND.out; omega)))) ?_
            refine hK _ _ trivial ?_
            clear hK K
            try simp only [Act.put, lqA, lqB, lqC, lqD, lqE, lqF]
            refine hm_one (i := 15) (by kernel_rfl) ?_
            refine hm_step 15 rfl (by kernel_rfl) fun K hK => ?_
            try simp only [Act.put, lqA, lqB, lqC, lqD, lqE, lqF]
            refine mo_known (.int .u64 ((d2[a]! : Nat) : Int)) _ (exec_load rfl (run_load_one Tryd.underlying59 rfl (cell_dn N (by have := BND.out; omega)))) ?_
            refine hK _ _ trivial ?_
            clear hK K
            try simp only [Act.put, lqA, lqB, lqC, lqD, lqE, lqF]
            refine hm_run 16 49 (.pointer (some ⟨g, 0 + (a) * 1, none⟩)) rfl rfl (by kernel_rfl) (by kernel_rfl) (by kernel_rfl) (fun _ _ _ h => h) rfl (fun W _ => exec_ix rfl (run_ix (k := 1) (j := a) Tryd.underlying54 (by kernel_rfl) (by have := BND.out; omega) rfl W)) trivial ?_
            try simp only [Act.put, lqA, lqB, lqC, lqD, lqE, lqF]
            refine hm_one (i := 17) (by kernel_rfl) ?_
            refine hm_step 17 rfl (by kernel_rfl) fun K hK => ?_
            try simp only [Act.put, lqA, lqB, lqC, lqD, lqE, lqF]
            refine mo_vput (i := a) (v := d2[a + k]!) (.tmp 49) (.tmp 44) rfl N rfl rfl (by have := BND.out; omega) ?_
            clear N
            intro w9 N hb9
            replace HB := Lib.hid (HB.out.trans hb9.out)
            clear hb9
            refine hK _ _ trivial ?_
            clear hK K
            try simp only [Act.put, lqA, lqB, lqC, lqD, lqE, lqF]
            refine hm_run 18 50 (.pointer (some ⟨g, 0 + (a + k) * 1, none⟩)) rfl rfl (by kernel_rfl) (by kernel_rfl) (by kernel_rfl) (fun _ _ _ h => h) rfl (fun W _ => exec_ix rfl (run_ix (k := 1) (j := a + k) Tryd.underlying54 (by kernel_rfl) (by have := BND.out; omega) rfl W)) trivial ?_
            try simp only [Act.put, lqA, lqB, lqC, lqD, lqE, lqF]
            refine hm_one (i := 19) (by kernel_rfl) ?_
            refine hm_step 19 rfl (by kernel_rfl) fun K hK => ?_
            try simp only [Act.put, lqA, lqB, lqC, lqD, lqE, lqF]
            refine mo_vput (i := a + k) (v := d2[a]!) (.tmp 50) (.tmp 48) rfl N rfl rfl (by have := BND.out; omega) ?_
            clear N
            intro w9 N hb9
            replace HB := Lib.hid (HB.out.trans hb9.out)
            clear hb9
            refine hK _ _ trivial ?_
            clear hK K
            try simp only [Act.put, lqA, lqB, lqC, lqD, lqE, lqF]
            refine wpAnyH_done (by kernel_rfl) ?_ _
            go_wp2_with (first
              | (go_at_call 122; refine (sift0_any N (by have := BND.out; omega) (by have := BND.out; omega)).mono ?_; rintro e w7 ⟨rfl, hN, hb⟩; replace HB := Lib.hid (HB.out.trans hb); clear N hb; have N := Lib.hid hN; clear hN)
              | ((with_reducible refine wpList_at 32 rfl ?_); refine wpList_kn rfl (.int .i64 ((k : Int) - 1)) (by exact exec_sub rfl rfl rfl (by have := BND.out; rw [IntKind.wrap_i64]; omega)) ?_))
            go_roundg k
            case measure => omega
            case rel => exact ⟨Go.Sort.siftDown ltN k a 0 ((d2.setIfInBounds (a) d2[a + k]!).setIfInBounds (a + k) d2[a]!), by have := BND.out; omega, rfl, N, INX, HB⟩
          · refine hm_step 15 rfl (by kernel_rfl) fun K hK => ?_
            try simp only [Act.put, lqA, lqB, lqC, lqD, lqE, lqF]
            refine mo_known (.int .u64 ((d2[a]! : Nat) : Int)) _ (exec_load rfl (run_load_one Tryd.underlying59 rfl (cell_dn N (by have := BND.out; omega)))) ?_
            refine hK _ _ trivial ?_
            clear hK K
            try simp only [Act.put, lqA, lqB, lqC, lqD, lqE, lqF]
            refine hm_one (i := 11) (by kernel_rfl) ?_
            refine hm_step 11 rfl (by kernel_rfl) fun K hK => ?_
            try simp only [Act.put, lqA, lqB, lqC, lqD, lqE, lqF]
            refine mo_known (.int .u64 ((d2[a + k]! : Nat) : Int)) _ (exec_load rfl (run_load_one Tryd.underlying59 rfl (cell_dn N (by have := BND.out; omega)))) ?_
            refine hK _ _ trivial ?_
            clear hK K
            try simp only [Act.put, lqA, lqB, lqC, lqD, lqE, lqF]
            refine hm_run 16 49 (.pointer (some ⟨g, 0 + (a) * 1, none⟩)) rfl rfl (by kernel_rfl) (by kernel_rfl) (by kernel_rfl) (fun _ _ _ h => h) rfl (fun W _ => exec_ix rfl (run_ix (k := 1) (j := a) Tryd.underlying54 (by kernel_rfl) (by have := BND.out; omega) rfl W)) trivial ?_
            try simp only [Act.put, lqA, lqB, lqC, lqD, lqE, lqF]
            refine hm_one (i := 17) (by kernel_rfl) ?_
            refine hm_step 17 rfl (by kernel_rfl) fun K hK => ?_
            try simp only [Act.put, lqA, lqB, lqC, lqD, lqE, lqF]
            refine mo_vput (i := a) (v := d2[a + k]!) (.tmp 49) (.tmp 44) rfl N rfl rfl (by have := BND.out; omega) ?_
            clear N
            intro w9 N hb9
            replace HB := Lib.hid (HB.out.trans hb9.out)
            clear hb9
            refine hK _ _ trivial ?_
            clear hK K
            try simp only [Act.put, lqA, lqB, lqC, lqD, lqE, lqF]
            refine hm_run 18 50 (.pointer (some ⟨g, 0 + (a + k) * 1, none⟩)) rfl rfl (by kernel_rfl) (by kernel_rfl) (by kernel_rfl) (fun _ _ _ h => h) rfl (fun W _ => exec_ix rfl (run_ix (k := 1) (j := a + k) Tryd.underlying54 (by kernel_rfl) (by have := BND.out; omega) rfl W)) trivial ?_
            try simp only [Act.put, lqA, lqB, lqC, lqD, lqE, lqF]
            refine hm_one (i := 19) (by kernel_rfl) ?_
            refine hm_step 19 rfl (by kernel_rfl) fun K hK => ?_
            try simp only [Act.put, lqA, lqB, lqC, lqD, lqE, lqF]
            refine mo_vput (i := a + k) (v := d2[a]!) (.tmp 50) (.tmp 48) rfl N rfl rfl (by have := BND.out; omega) ?_
            clear N
            intro w9 N hb9
            replace HB := Lib.hid (HB.out.trans hb9.out)
            clear hb9
            refine hK _ _ trivial ?_
            clear hK K
            try simp only [Act.put, lqA, lqB, lqC, lqD, lqE, lqF]
            refine wpAnyH_done (by kernel_rfl) ?_ _
            go_wp2_with (first
              | (go_at_call 122; refine (sift0_any N (by have := BND.out; omega) (by have := BND.out; omega)).mono ?_; rintro e w7 ⟨rfl, hN, hb⟩; replace HB := Lib.hid (HB.out.trans hb); clear N hb; have N := Lib.hid hN; clear hN)
              | ((with_reducible refine wpList_at 32 rfl ?_); refine wpList_kn rfl (.int .i64 ((k : Int) - 1)) (by exact exec_sub rfl rfl rfl (by have := BND.out; rw [IntKind.wrap_i64]; omega)) ?_))
            go_roundg k
            case measure => omega
            case rel => exact ⟨Go.Sort.siftDown ltN k a 0 ((d2.setIfInBounds (a) d2[a + k]!).setIfInBounds (a + k) d2[a]!), by have := BND.out; omega, rfl, N, INX, HB⟩
    · obtain ⟨k, rfl⟩ : ∃ k, K = k + 1 := ⟨K - 1, by omega⟩
      have e : ((k + 1 : Nat) : Int) - 1 = (k : Int) := by omega
      rw [e]
      have GE := Lib.hid (show decide ((0 : Int) ≤ (k : Int)) = true from decide_eq_true (by omega))
      have BND := Lib.hid (show k + 1 ≤ k0 ∧ a < b ∧ b ≤ n ∧ n ≤ 20000 ∧ hi = b - a ∧ k0 = (hi - 1) / 2 + 1 by have := BI.out; omega)
      have INX := Lib.hid (show Go.Sort.heapBuild ltN hi a k (Go.Sort.siftDown ltN hi a k d2) = R1 by have h := IN.out; rw [Go.Sort.heapBuild] at h; exact h)
      clear IN hk hK e
      go_wp2_with (first
        | ((with_reducible refine wpList_at 19 rfl ?_); refine wpList_kn rfl (.bool true) (by exact exec_geqN rfl rfl rfl GE.out) ?_)
        | (go_at_call 122; refine (sift_any N (by have := BND.out; omega) (by have := BND.out; omega) (by have := BND.out; omega)).mono ?_; rintro e w7 ⟨rfl, hN, hb⟩; replace HB := Lib.hid (HB.out.trans hb); clear N hb; have N := Lib.hid hN; clear hN)
        | ((with_reducible refine wpList_at 21 rfl ?_); refine wpList_kn rfl (.int .i64 ((k : Int) - 1)) (by exact exec_sub rfl rfl rfl (by have := BND.out; rw [IntKind.wrap_i64]; omega)) ?_))
      go_roundg k
      case measure => omega
      case rel => exact ⟨Go.Sort.siftDown ltN hi a k d2, by have := BND.out; omega, rfl, N, INX, HB⟩
end Go.Proofs.YtoopcmcmjaikhaaDoor
