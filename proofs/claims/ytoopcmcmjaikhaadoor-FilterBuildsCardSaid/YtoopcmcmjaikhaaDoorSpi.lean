/- The sort of uint64: partialInsertionSort. -/
import Derived.Test.YtoopcmcmjaikhaaDoorSz
set_option linter.unusedSimpArgs false
set_option linter.unusedVariables false
set_option maxRecDepth 100000
namespace Go.Proofs.YtoopcmcmjaikhaaDoor
open Go.RowKit Go.Lib

theorem scs_go {d : Array Nat} {b i : Nat} (h : i < b) (hp : ltN d[i]! d[i - 1]! = false) : Go.Sort.scanSorted ltN d b i = Go.Sort.scanSorted ltN d b (i + 1) := by
  conv => lhs; rw [Go.Sort.scanSorted]
  exact if_pos (by simp [h, hp])
theorem scs_off {d : Array Nat} {b i : Nat} (h : ¬ i < b) : Go.Sort.scanSorted ltN d b i = i := by
  rw [Go.Sort.scanSorted]
  exact if_neg (by simp [h])
theorem scs_stop {d : Array Nat} {b i : Nat} (hp : ltN d[i]! d[i - 1]! = true) : Go.Sort.scanSorted ltN d b i = i := by
  rw [Go.Sort.scanSorted]
  exact if_neg (by simp [hp])
theorem shd_pos {p : Nat} (d : Array Nat) (h : 1 ≤ p) : Go.Sort.shiftDown ltN p d = if !ltN d[p]! d[p - 1]! then d else Go.Sort.shiftDown ltN (p - 1) (Go.Sort.swp d p (p - 1)) := by
  obtain ⟨k, rfl⟩ : ∃ k, p = k + 1 := ⟨p - 1, by omega⟩
  rw [Go.Sort.shiftDown]
  rfl
theorem shd_off {p : Nat} (d : Array Nat) (h : ¬ 1 ≤ p) : Go.Sort.shiftDown ltN p d = d := by
  obtain rfl : p = 0 := by omega
  rw [Go.Sort.shiftDown]
theorem shu_pos {b p : Nat} (d : Array Nat) (h : p < b) : Go.Sort.shiftUp ltN b p d = if !ltN d[p]! d[p - 1]! then d else Go.Sort.shiftUp ltN b (p + 1) (Go.Sort.swp d p (p - 1)) := by
  conv => lhs; rw [Go.Sort.shiftUp]
  exact if_pos h
theorem shu_off {b p : Nat} (d : Array Nat) (h : ¬ p < b) : Go.Sort.shiftUp ltN b p d = d := by
  rw [Go.Sort.shiftUp, if_neg h]
set_option maxHeartbeats 64000000 in
theorem pis64_any {w : World} {B g n c a b : Nat} {d : Array Nat} (N : Hid (NRow B w g n c d ∧ d.size = n)) (hab : a < b) (hbn : b ≤ n) (hn : n ≤ 20000) : Calls Tryd.prog 104 #[.slice (some ⟨g, 0, none⟩) n c, .int .i64 (a : Int), .int .i64 (b : Int)] w fun e w' => e = .returned (.bool (Go.Sort.partialInsertionSort ltN d a b).2) ∧ (NRow B w' g n c (Go.Sort.partialInsertionSort ltN d a b).1 ∧ (Go.Sort.partialInsertionSort ltN d a b).1.size = n) ∧ Below B w w' := by
  obtain ⟨R, hR⟩ : ∃ R, R = Go.Sort.partialInsertionSort ltN d a b := ⟨_, rfl⟩
  have OUT0 := Lib.hid (show Go.Sort.partialIns ltN a b 5 (a + 1) d = R from hR.symm)
  have BI := Lib.hid (show a < b ∧ b ≤ n ∧ n ≤ 20000 from ⟨hab, hbn, hn⟩)
  have HB := Lib.hid (Below.refl B w)
  rw [← hR]
  clear hab hbn hn hR
  go_enter Tryd.func104, Tryd.ntmps104
  go_upto_region 3 with ((with_reducible refine wpList_at 12 rfl ?_); refine wpList_kn rfl (.int .i64 ((a + 1 : Nat) : Int)) (by exact exec_add rfl rfl rfl (by have := BI.out; rw [IntKind.wrap_i64]; omega)) ?_)
  go_loopg [7, 8] 5 (fun k s7 s8 wr => ∃ (st i : Nat) (d2 : Array Nat), st + k = 5 ∧ a < i ∧ i ≤ b ∧ s7 = .int .i64 (i : Int) ∧ s8 = .int .i64 (st : Int) ∧ Hid (NRow B wr g n c d2 ∧ d2.size = n) ∧ Hid (Go.Sort.partialIns ltN a b k i d2 = R) ∧ Hid (Below B w wr))
  case atStart => exact ⟨0, a + 1, d, rfl, Nat.lt_succ_self _, by have := BI.out; omega, rfl, rfl, N, OUT0, HB⟩
  case round =>
    clear N OUT0 HB
    obtain ⟨st, i, d2, hk, hai, hib, rfl, rfl, N, IN, HB⟩ := hrel
    obtain ⟨D, hD⟩ : ∃ D, D = wr := ⟨_, rfl⟩
    subst hD
    obtain ⟨K, rfl⟩ : ∃ K : Nat, K = gk := ⟨_, rfl⟩
    by_cases hK : K = 0
    · subst hK
      have RX := Lib.hid (show (d2, false) = R by have h := IN.out; rw [Go.Sort.partialIns] at h; exact h)
      have LT5 := Lib.hid (show decide ((st : Int) < 5) = false from decide_eq_false (by omega))
      clear IN hk hai hib
      go_wp2_with ((with_reducible refine wpList_at 14 rfl ?_); refine wpList_kn rfl (.bool false) (by exact exec_lssi rfl rfl rfl LT5.out) ?_)
      ((try simp only [Exit.inBlock, Exit.then]); refine bodyPost_ret (results_tmp rfl _ _ _) rfl ?_)
      exact ⟨by rw [← RX.out]; rfl, by rw [← RX.out]; exact N.out, HB.out⟩
    · obtain ⟨kk, rfl⟩ : ∃ k, K = k + 1 := ⟨K - 1, by omega⟩
      have KI := Lib.hid hk
      have LT5 := Lib.hid (show decide ((st : Int) < 5) = true from decide_eq_true (by omega))
      have B1 := Lib.hid (show st ≤ 5 ∧ a < i ∧ i ≤ b ∧ a < b ∧ b ≤ n ∧ n ≤ 20000 by have := BI.out; omega)
      obtain ⟨I2, hI2⟩ : ∃ I2, I2 = Go.Sort.scanSorted ltN d2 b i := ⟨_, rfl⟩
      obtain ⟨D4, hD4⟩ : ∃ D4, D4 = if I2 - a ≥ 2 then Go.Sort.shiftDown ltN (I2 - 1) (Go.Sort.swp d2 I2 (I2 - 1)) else Go.Sort.swp d2 I2 (I2 - 1) := ⟨_, rfl⟩
      obtain ⟨D5, hD5⟩ : ∃ D5, D5 = if b - I2 ≥ 2 then Go.Sort.shiftUp ltN b (I2 + 1) D4 else D4 := ⟨_, rfl⟩
      have OUT := Lib.hid (show (if I2 = b then (d2, true) else if b - a < 50 then (d2, false) else Go.Sort.partialIns ltN a b kk I2 D5) = R by have h := IN.out; rw [Go.Sort.partialIns, ← hI2] at h; rw [hD5, hD4]; exact h)
      have UP := Lib.hid hI2.symm
      have HD4 := Lib.hid hD4
      have HD5 := Lib.hid hD5
      clear hI2 hD4 hD5 IN hk hai hib hK
      go_upto_block 2 with ((with_reducible refine wpList_at 14 rfl ?_); refine wpList_kn rfl (.bool true) (by exact exec_lssi rfl rfl rfl LT5.out) ?_)
      try simp only [Act.put, lqA, lqB, lqC, lqD, lqE, lqF]
      go_cut [7] (fun s7 wx => s7 = .int .i64 (I2 : Int) ∧ a < I2 ∧ I2 ≤ b ∧ Hid (NRow B wx g n c d2 ∧ d2.size = n) ∧ Hid (Below B w wx))
      case first =>
        go_wp2_with fail
        go_loopg [7] (b - i) (fun k s7 wr => ∃ q : Nat, b - q = k ∧ i ≤ q ∧ q ≤ b ∧ s7 = .int .i64 (q : Int) ∧ Hid (NRow B wr g n c d2 ∧ d2.size = n) ∧ Hid (Go.Sort.scanSorted ltN d2 b q = I2) ∧ Hid (Below B w wr))
        case atStart => exact ⟨i, rfl, Nat.le_refl _, by have := B1.out; omega, rfl, N, UP, HB⟩
        case round =>
          clear N UP HB
          obtain ⟨q, hk, hiq, hqn, rfl, N, UP, HB⟩ := hrel
          obtain ⟨D2, hD2⟩ : ∃ D, D = wr := ⟨_, rfl⟩
          subst hD2
          have KQ := Lib.hid hk
          have BND := Lib.hid (show i ≤ q ∧ q ≤ b ∧ a < i ∧ a < b ∧ b ≤ n ∧ n ≤ 20000 by have := B1.out; omega)
          clear hk hiq hqn
          by_cases hqj : q < b
          · have LE := Lib.hid (show decide ((q : Int) < (b : Int)) = true from decide_eq_true (by omega))
            replace BND := Lib.hid (And.intro hqj BND.out)
            by_cases hl : d2[q]! < d2[(q) - 1]!
            · have LQ := Lib.hid (decide_eq_true hl)
              obtain rfl : q = I2 := by rw [← UP.out]; exact (scs_stop (by simp only [ltN]; exact LQ.out)).symm
              clear UP hqj hl
              go_upto_region 5 with fail
              refine wp_region_T (Φ := fun X => (NRow B X g n c d2 ∧ d2.size = n) ∧ Below B w X) (S := fun X => (NRow B X g n c d2 ∧ d2.size = n) ∧ Below B w X) (Lib.hid ⟨N.out, HB.out⟩) (fun X h => ⟨⟨h.1.1.below ((Below.refl _ _).drew), h.1.2⟩, h.2.drew⟩) (fun X h => h) (by kernel_rfl) ?_
              clear N HB
              intro wx TT S0
              have N := Lib.hid TT.out.1
              have HB := Lib.hid TT.out.2
              clear TT
              refine hm_run 0 17 (.int .i64 ((q : Nat) : Int)) rfl rfl (by kernel_rfl) (by kernel_rfl) (by kernel_rfl) (fun _ _ _ h => h) rfl (fun _ _ => rfl) S0.out ?_
              try simp only [Act.put, lqA, lqB, lqC, lqD, lqE, lqF]
              refine hm_run 1 18 (.int .i64 ((b : Nat) : Int)) rfl rfl (by kernel_rfl) (by kernel_rfl) (by kernel_rfl) (fun _ _ _ h => h) rfl (fun _ _ => rfl) S0.out ?_
              try simp only [Act.put, lqA, lqB, lqC, lqD, lqE, lqF]
              refine hm_run 2 19 (.bool true) rfl rfl (by kernel_rfl) (by kernel_rfl) (by kernel_rfl) (fun _ _ _ h => h) rfl (fun _ _ => exec_lssi rfl rfl rfl LE.out) S0.out ?_
              try simp only [Act.put, lqA, lqB, lqC, lqD, lqE, lqF]
              refine hm_run 3 20 (.bool true) rfl rfl (by kernel_rfl) (by kernel_rfl) (by kernel_rfl) (fun _ _ _ h => h) rfl (fun _ _ => rfl) S0.out ?_
              try simp only [Act.put, lqA, lqB, lqC, lqD, lqE, lqF]
              refine hm_run 4 21 (.slice (some ⟨g, 0, none⟩) n c) rfl rfl (by kernel_rfl) (by kernel_rfl) (by kernel_rfl) (fun _ _ _ h => h) rfl (fun _ _ => rfl) S0.out ?_
              try simp only [Act.put, lqA, lqB, lqC, lqD, lqE, lqF]
              refine hm_run 5 22 (.int .i64 ((q : Nat) : Int)) rfl rfl (by kernel_rfl) (by kernel_rfl) (by kernel_rfl) (fun _ _ _ h => h) rfl (fun _ _ => rfl) S0.out ?_
              try simp only [Act.put, lqA, lqB, lqC, lqD, lqE, lqF]
              refine hm_run 6 23 (.pointer (some ⟨g, 0 + (q) * 1, none⟩)) rfl rfl (by kernel_rfl) (by kernel_rfl) (by kernel_rfl) (fun _ _ _ h => h) rfl (fun W _ => exec_ix rfl (run_ix (k := 1) (j := q) Tryd.underlying54 (by kernel_rfl) (by have := BND.out; omega) rfl W)) S0.out ?_
              try simp only [Act.put, lqA, lqB, lqC, lqD, lqE, lqF]
              refine hm_run 7 24 (.int .u64 ((d2[q]! : Nat) : Int)) rfl rfl (by kernel_rfl) (by kernel_rfl) (by kernel_rfl) (fun _ _ _ h => h) rfl (fun W hW => exec_load rfl (run_load_one Tryd.underlying59 rfl (cell_dn (Lib.hid hW.1) (by have := BND.out; omega)))) S0.out ?_
              try simp only [Act.put, lqA, lqB, lqC, lqD, lqE, lqF]
              refine hm_run 8 25 (.slice (some ⟨g, 0, none⟩) n c) rfl rfl (by kernel_rfl) (by kernel_rfl) (by kernel_rfl) (fun _ _ _ h => h) rfl (fun _ _ => rfl) S0.out ?_
              try simp only [Act.put, lqA, lqB, lqC, lqD, lqE, lqF]
              refine hm_run 9 26 (.int .i64 ((q : Nat) : Int)) rfl rfl (by kernel_rfl) (by kernel_rfl) (by kernel_rfl) (fun _ _ _ h => h) rfl (fun _ _ => rfl) S0.out ?_
              try simp only [Act.put, lqA, lqB, lqC, lqD, lqE, lqF]
              refine hm_run 10 27 (.int .i64 (((q) - 1 : Nat) : Int)) rfl rfl (by kernel_rfl) (by kernel_rfl) (by kernel_rfl) (fun _ _ _ h => h) rfl (fun _ _ => exec_sub rfl rfl rfl (by have := BND.out; rw [IntKind.wrap_i64]; omega)) S0.out ?_
              try simp only [Act.put, lqA, lqB, lqC, lqD, lqE, lqF]
              refine hm_run 11 28 (.pointer (some ⟨g, 0 + ((q) - 1) * 1, none⟩)) rfl rfl (by kernel_rfl) (by kernel_rfl) (by kernel_rfl) (fun _ _ _ h => h) rfl (fun W _ => exec_ix rfl (run_ix (k := 1) (j := (q) - 1) Tryd.underlying54 (by kernel_rfl) (by have := BND.out; omega) rfl W)) S0.out ?_
              try simp only [Act.put, lqA, lqB, lqC, lqD, lqE, lqF]
              refine hm_run 12 29 (.int .u64 ((d2[(q) - 1]! : Nat) : Int)) rfl rfl (by kernel_rfl) (by kernel_rfl) (by kernel_rfl) (fun _ _ _ h => h) rfl (fun W hW => exec_load rfl (run_load_one Tryd.underlying59 rfl (cell_dn (Lib.hid hW.1) (by have := BND.out; omega)))) S0.out ?_
              try simp only [Act.put, lqA, lqB, lqC, lqD, lqE, lqF]
              refine hm_one (i := 13) (by kernel_rfl) ?_
              refine hm_step 13 rfl (by kernel_rfl) fun K hK => ?_
              try simp only [Act.put, lqA, lqB, lqC, lqD, lqE, lqF]
              go_simp
              go_at_call 58
              refine (less_any _ _ _).mono ?_
              rintro e w7 ⟨rfl, rfl⟩
              rw [LQ.out]
              refine hK _ _ S0.out ?_
              clear hK K
              try simp only [Act.put, lqA, lqB, lqC, lqD, lqE, lqF]
              refine hm_run 14 31 (.bool false) rfl rfl (by kernel_rfl) (by kernel_rfl) (by kernel_rfl) (fun _ _ _ h => h) rfl (fun _ _ => rfl) S0.out ?_
              try simp only [Act.put, lqA, lqB, lqC, lqD, lqE, lqF]
              refine hm_run 15 32 (.bool false) rfl rfl (by kernel_rfl) (by kernel_rfl) (by kernel_rfl) (fun _ _ _ h => h) rfl (fun _ _ => rfl) S0.out ?_
              try simp only [Act.put, lqA, lqB, lqC, lqD, lqE, lqF]
              refine wpAnyH_done (by kernel_rfl) ?_ _
              go_wp2_with fail
              go_meet
              exact ⟨rfl, by have := BND.out; omega, by have := BND.out; omega, N, HB⟩
            · have LQ := Lib.hid (decide_eq_false hl)
              have UPX := Lib.hid (show Go.Sort.scanSorted ltN d2 b (q + 1) = I2 by rw [← UP.out]; exact (scs_go hqj (by simp only [ltN]; exact LQ.out)).symm)
              clear UP hqj hl
              go_upto_region 5 with fail
              refine wp_region_T (Φ := fun X => (NRow B X g n c d2 ∧ d2.size = n) ∧ Below B w X) (S := fun X => (NRow B X g n c d2 ∧ d2.size = n) ∧ Below B w X) (Lib.hid ⟨N.out, HB.out⟩) (fun X h => ⟨⟨h.1.1.below ((Below.refl _ _).drew), h.1.2⟩, h.2.drew⟩) (fun X h => h) (by kernel_rfl) ?_
              clear N HB
              intro wx TT S0
              have N := Lib.hid TT.out.1
              have HB := Lib.hid TT.out.2
              clear TT
              refine hm_run 0 17 (.int .i64 ((q : Nat) : Int)) rfl rfl (by kernel_rfl) (by kernel_rfl) (by kernel_rfl) (fun _ _ _ h => h) rfl (fun _ _ => rfl) S0.out ?_
              try simp only [Act.put, lqA, lqB, lqC, lqD, lqE, lqF]
              refine hm_run 1 18 (.int .i64 ((b : Nat) : Int)) rfl rfl (by kernel_rfl) (by kernel_rfl) (by kernel_rfl) (fun _ _ _ h => h) rfl (fun _ _ => rfl) S0.out ?_
              try simp only [Act.put, lqA, lqB, lqC, lqD, lqE, lqF]
              refine hm_run 2 19 (.bool true) rfl rfl (by kernel_rfl) (by kernel_rfl) (by kernel_rfl) (fun _ _ _ h => h) rfl (fun _ _ => exec_lssi rfl rfl rfl LE.out) S0.out ?_
              try simp only [Act.put, lqA, lqB, lqC, lqD, lqE, lqF]
              refine hm_run 3 20 (.bool true) rfl rfl (by kernel_rfl) (by kernel_rfl) (by kernel_rfl) (fun _ _ _ h => h) rfl (fun _ _ => rfl) S0.out ?_
              try simp only [Act.put, lqA, lqB, lqC, lqD, lqE, lqF]
              refine hm_run 4 21 (.slice (some ⟨g, 0, none⟩) n c) rfl rfl (by kernel_rfl) (by kernel_rfl) (by kernel_rfl) (fun _ _ _ h => h) rfl (fun _ _ => rfl) S0.out ?_
              try simp only [Act.put, lqA, lqB, lqC, lqD, lqE, lqF]
              refine hm_run 5 22 (.int .i64 ((q : Nat) : Int)) rfl rfl (by kernel_rfl) (by kernel_rfl) (by kernel_rfl) (fun _ _ _ h => h) rfl (fun _ _ => rfl) S0.out ?_
              try simp only [Act.put, lqA, lqB, lqC, lqD, lqE, lqF]
              refine hm_run 6 23 (.pointer (some ⟨g, 0 + (q) * 1, none⟩)) rfl rfl (by kernel_rfl) (by kernel_rfl) (by kernel_rfl) (fun _ _ _ h => h) rfl (fun W _ => exec_ix rfl (run_ix (k := 1) (j := q) Tryd.underlying54 (by kernel_rfl) (by have := BND.out; omega) rfl W)) S0.out ?_
              try simp only [Act.put, lqA, lqB, lqC, lqD, lqE, lqF]
              refine hm_run 7 24 (.int .u64 ((d2[q]! : Nat) : Int)) rfl rfl (by kernel_rfl) (by kernel_rfl) (by kernel_rfl) (fun _ _ _ h => h) rfl (fun W hW => exec_load rfl (run_load_one Tryd.underlying59 rfl (cell_dn (Lib.hid hW.1) (by have := BND.out; omega)))) S0.out ?_
              try simp only [Act.put, lqA, lqB, lqC, lqD, lqE, lqF]
              refine hm_run 8 25 (.slice (some ⟨g, 0, none⟩) n c) rfl rfl (by kernel_rfl) (by kernel_rfl) (by kernel_rfl) (fun _ _ _ h => h) rfl (fun _ _ => rfl) S0.out ?_
              try simp only [Act.put, lqA, lqB, lqC, lqD, lqE, lqF]
              refine hm_run 9 26 (.int .i64 ((q : Nat) : Int)) rfl rfl (by kernel_rfl) (by kernel_rfl) (by kernel_rfl) (fun _ _ _ h => h) rfl (fun _ _ => rfl) S0.out ?_
              try simp only [Act.put, lqA, lqB, lqC, lqD, lqE, lqF]
              refine hm_run 10 27 (.int .i64 (((q) - 1 : Nat) : Int)) rfl rfl (by kernel_rfl) (by kernel_rfl) (by kernel_rfl) (fun _ _ _ h => h) rfl (fun _ _ => exec_sub rfl rfl rfl (by have := BND.out; rw [IntKind.wrap_i64]; omega)) S0.out ?_
              try simp only [Act.put, lqA, lqB, lqC, lqD, lqE, lqF]
              refine hm_run 11 28 (.pointer (some ⟨g, 0 + ((q) - 1) * 1, none⟩)) rfl rfl (by kernel_rfl) (by kernel_rfl) (by kernel_rfl) (fun _ _ _ h => h) rfl (fun W _ => exec_ix rfl (run_ix (k := 1) (j := (q) - 1) Tryd.underlying54 (by kernel_rfl) (by have := BND.out; omega) rfl W)) S0.out ?_
              try simp only [Act.put, lqA, lqB, lqC, lqD, lqE, lqF]
              refine hm_run 12 29 (.int .u64 ((d2[(q) - 1]! : Nat) : Int)) rfl rfl (by kernel_rfl) (by kernel_rfl) (by kernel_rfl) (fun _ _ _ h => h) rfl (fun W hW => exec_load rfl (run_load_one Tryd.underlying59 rfl (cell_dn (Lib.hid hW.1) (by have := BND.out; omega)))) S0.out ?_
              try simp only [Act.put, lqA, lqB, lqC, lqD, lqE, lqF]
              refine hm_one (i := 13) (by kernel_rfl) ?_
              refine hm_step 13 rfl (by kernel_rfl) fun K hK => ?_
              try simp only [Act.put, lqA, lqB, lqC, lqD, lqE, lqF]
              go_simp
              go_at_call 58
              refine (less_any _ _ _).mono ?_
              rintro e w7 ⟨rfl, rfl⟩
              rw [LQ.out]
              refine hK _ _ S0.out ?_
              clear hK K
              try simp only [Act.put, lqA, lqB, lqC, lqD, lqE, lqF]
              refine hm_run 14 31 (.bool true) rfl rfl (by kernel_rfl) (by kernel_rfl) (by kernel_rfl) (fun _ _ _ h => h) rfl (fun _ _ => rfl) S0.out ?_
              try simp only [Act.put, lqA, lqB, lqC, lqD, lqE, lqF]
              refine hm_run 15 32 (.bool true) rfl rfl (by kernel_rfl) (by kernel_rfl) (by kernel_rfl) (fun _ _ _ h => h) rfl (fun _ _ => rfl) S0.out ?_
              try simp only [Act.put, lqA, lqB, lqC, lqD, lqE, lqF]
              refine wpAnyH_done (by kernel_rfl) ?_ _
              go_wp2_with ((with_reducible refine wpList_at 34 rfl ?_); refine wpList_kn rfl (.int .i64 ((q + 1 : Nat) : Int)) (by exact exec_add rfl rfl rfl (by have := BND.out; rw [IntKind.wrap_i64]; omega)) ?_)
              go_roundg (b - (q + 1))
              case measure => have := BND.out; have := KQ.out; omega
              case rel => exact ⟨q + 1, rfl, by have := BND.out; omega, by have := BND.out; omega, rfl, N, UPX, HB⟩
          · have LE := Lib.hid (show decide ((q : Int) < (b : Int)) = false from decide_eq_false (by omega))
            obtain rfl : q = I2 := by rw [← UP.out]; exact (scs_off hqj).symm
            clear UP hqj
            go_upto_region 5 with fail
            refine wp_region_T (Φ := fun X => (NRow B X g n c d2 ∧ d2.size = n) ∧ Below B w X) (S := fun X => (NRow B X g n c d2 ∧ d2.size = n) ∧ Below B w X) (Lib.hid ⟨N.out, HB.out⟩) (fun X h => ⟨⟨h.1.1.below ((Below.refl _ _).drew), h.1.2⟩, h.2.drew⟩) (fun X h => h) (by kernel_rfl) ?_
            clear N HB
            intro wx TT S0
            have N := Lib.hid TT.out.1
            have HB := Lib.hid TT.out.2
            clear TT
            refine hm_run 0 17 (.int .i64 ((q : Nat) : Int)) rfl rfl (by kernel_rfl) (by kernel_rfl) (by kernel_rfl) (fun _ _ _ h => h) rfl (fun _ _ => rfl) S0.out ?_
            try simp only [Act.put, lqA, lqB, lqC, lqD, lqE, lqF]
            refine hm_run 1 18 (.int .i64 ((b : Nat) : Int)) rfl rfl (by kernel_rfl) (by kernel_rfl) (by kernel_rfl) (fun _ _ _ h => h) rfl (fun _ _ => rfl) S0.out ?_
            try simp only [Act.put, lqA, lqB, lqC, lqD, lqE, lqF]
            refine hm_run 2 19 (.bool false) rfl rfl (by kernel_rfl) (by kernel_rfl) (by kernel_rfl) (fun _ _ _ h => h) rfl (fun _ _ => exec_lssi rfl rfl rfl LE.out) S0.out ?_
            try simp only [Act.put, lqA, lqB, lqC, lqD, lqE, lqF]
            refine hm_run 3 20 (.bool false) rfl rfl (by kernel_rfl) (by kernel_rfl) (by kernel_rfl) (fun _ _ _ h => h) rfl (fun _ _ => rfl) S0.out ?_
            try simp only [Act.put, lqA, lqB, lqC, lqD, lqE, lqF]
            refine hm_off 4 21 rfl rfl (by kernel_rfl) (by kernel_rfl) (by kernel_rfl) (fun _ _ _ h => h) rfl S0.out ?_
            try simp only [Act.put, lqA, lqB, lqC, lqD, lqE, lqF]
            refine hm_off 5 22 rfl rfl (by kernel_rfl) (by kernel_rfl) (by kernel_rfl) (fun _ _ _ h => h) rfl S0.out ?_
            try simp only [Act.put, lqA, lqB, lqC, lqD, lqE, lqF]
            refine hm_off 6 23 rfl rfl (by kernel_rfl) (by kernel_rfl) (by kernel_rfl) (fun _ _ _ h => h) rfl S0.out ?_
            try simp only [Act.put, lqA, lqB, lqC, lqD, lqE, lqF]
            refine hm_off 7 24 rfl rfl (by kernel_rfl) (by kernel_rfl) (by kernel_rfl) (fun _ _ _ h => h) rfl S0.out ?_
            try simp only [Act.put, lqA, lqB, lqC, lqD, lqE, lqF]
            refine hm_off 8 25 rfl rfl (by kernel_rfl) (by kernel_rfl) (by kernel_rfl) (fun _ _ _ h => h) rfl S0.out ?_
            try simp only [Act.put, lqA, lqB, lqC, lqD, lqE, lqF]
            refine hm_off 9 26 rfl rfl (by kernel_rfl) (by kernel_rfl) (by kernel_rfl) (fun _ _ _ h => h) rfl S0.out ?_
            try simp only [Act.put, lqA, lqB, lqC, lqD, lqE, lqF]
            refine hm_off 10 27 rfl rfl (by kernel_rfl) (by kernel_rfl) (by kernel_rfl) (fun _ _ _ h => h) rfl S0.out ?_
            try simp only [Act.put, lqA, lqB, lqC, lqD, lqE, lqF]
            refine hm_off 11 28 rfl rfl (by kernel_rfl) (by kernel_rfl) (by kernel_rfl) (fun _ _ _ h => h) rfl S0.out ?_
            try simp only [Act.put, lqA, lqB, lqC, lqD, lqE, lqF]
            refine hm_off 12 29 rfl rfl (by kernel_rfl) (by kernel_rfl) (by kernel_rfl) (fun _ _ _ h => h) rfl S0.out ?_
            try simp only [Act.put, lqA, lqB, lqC, lqD, lqE, lqF]
            refine hm_off 13 30 rfl rfl (by kernel_rfl) (by kernel_rfl) (by kernel_rfl) (fun _ _ _ h => h) rfl S0.out ?_
            try simp only [Act.put, lqA, lqB, lqC, lqD, lqE, lqF]
            refine hm_off 14 31 rfl rfl (by kernel_rfl) (by kernel_rfl) (by kernel_rfl) (fun _ _ _ h => h) rfl S0.out ?_
            try simp only [Act.put, lqA, lqB, lqC, lqD, lqE, lqF]
            refine hm_run 15 32 (.bool false) rfl rfl (by kernel_rfl) (by kernel_rfl) (by kernel_rfl) (fun _ _ _ h => h) rfl (fun _ _ => rfl) S0.out ?_
            try simp only [Act.put, lqA, lqB, lqC, lqD, lqE, lqF]
            refine wpAnyH_done (by kernel_rfl) ?_ _
            go_wp2_with fail
            go_meet
            exact ⟨rfl, by have := BND.out; omega, by have := BND.out; omega, N, HB⟩
      case rest =>
        obtain ⟨rfl, haI, hIb, N, HB⟩ := hcut
        have BND := Lib.hid (show st ≤ 5 ∧ a < I2 ∧ I2 ≤ b ∧ a < b ∧ b ≤ n ∧ n ≤ 20000 by have := B1.out; omega)
        clear haI hIb
        by_cases hb : I2 = b
        · have EQ := Lib.hid (show decide ((I2 : Int) = (b : Int)) = true from decide_eq_true (by omega))
          have RX := Lib.hid (show (d2, true) = R by have h := OUT.out; rw [if_pos hb] at h; exact h)
          clear OUT hb
          go_wp2_with ((with_reducible refine wpList_at 37 rfl ?_); refine wpList_kn rfl (.bool true) (by exact exec_eqli rfl rfl rfl EQ.out) ?_)
          ((try simp only [Exit.inBlock, Exit.then]); refine bodyPost_ret (results_tmp rfl _ _ _) rfl ?_)
          exact ⟨by rw [← RX.out]; rfl, by rw [← RX.out]; exact N.out, HB.out⟩
        · have EQ := Lib.hid (show decide ((I2 : Int) = (b : Int)) = false from decide_eq_false (by omega))
          replace BND := Lib.hid (And.intro hb BND.out)
          by_cases h50 : b - a < 50
          · have L50 := Lib.hid (show decide (((b - a : Nat) : Int) < 50) = true from decide_eq_true (by omega))
            have RX := Lib.hid (show (d2, false) = R by have h := OUT.out; rw [if_neg hb, if_pos h50] at h; exact h)
            clear OUT hb h50
            go_wp2_with (first | ((with_reducible refine wpList_at 37 rfl ?_); refine wpList_kn rfl (.bool false) (by exact exec_eqli rfl rfl rfl EQ.out) ?_) | ((with_reducible refine wpList_at 40 rfl ?_); refine wpList_kn rfl (.int .i64 ((b - a : Nat) : Int)) (by exact exec_sub rfl rfl rfl (by have := BND.out; rw [IntKind.wrap_i64]; omega)) ?_) | ((with_reducible refine wpList_at 41 rfl ?_); refine wpList_kn rfl (.bool true) (by exact exec_lssi rfl rfl rfl L50.out) ?_))
            ((try simp only [Exit.inBlock, Exit.then]); refine bodyPost_ret (results_tmp rfl _ _ _) rfl ?_)
            exact ⟨by rw [← RX.out]; rfl, by rw [← RX.out]; exact N.out, HB.out⟩
          · have L50 := Lib.hid (show decide (((b - a : Nat) : Int) < 50) = false from decide_eq_false (by omega))
            have INX := Lib.hid (show Go.Sort.partialIns ltN a b kk I2 D5 = R by have h := OUT.out; rw [if_neg hb, if_neg h50] at h; exact h)
            clear OUT hb h50
            obtain ⟨d4, hd4⟩ : ∃ d4, d4 = Go.Sort.swp d2 I2 (I2 - 1) := ⟨_, rfl⟩
            have HS := Lib.hid hd4
            rw [← hd4] at HD4
            clear hd4
            go_upto_region 11 with (first | ((with_reducible refine wpList_at 37 rfl ?_); refine wpList_kn rfl (.bool false) (by exact exec_eqli rfl rfl rfl EQ.out) ?_) | ((with_reducible refine wpList_at 40 rfl ?_); refine wpList_kn rfl (.int .i64 ((b - a : Nat) : Int)) (by exact exec_sub rfl rfl rfl (by have := BND.out; rw [IntKind.wrap_i64]; omega)) ?_) | ((with_reducible refine wpList_at 41 rfl ?_); refine wpList_kn rfl (.bool false) (by exact exec_lssi rfl rfl rfl L50.out) ?_))
            try simp only [Act.put, lqA, lqB, lqC, lqD, lqE, lqF]
            go_cut [8] (fun s8 wx => s8 = .int .i64 (st : Int) ∧ Hid (NRow B wx g n c d4 ∧ d4.size = n) ∧ Hid (Below B w wx))
            case first =>
              refine wp_region_T (Φ := fun X => (NRow B X g n c d2 ∧ d2.size = n) ∧ Below B w X) (S := fun _ => True) (Lib.hid ⟨N.out, HB.out⟩) (fun X h => ⟨⟨h.1.1.below ((Below.refl _ _).drew), h.1.2⟩, h.2.drew⟩) (fun _ _ => trivial) (by kernel_rfl) ?_
              clear N HB
              intro wx TT S0
              have N := Lib.hid TT.out.1
              have HB := Lib.hid TT.out.2
              clear TT
              refine hm_run 0 42 (.slice (some ⟨g, 0, none⟩) n c) rfl rfl (by kernel_rfl) (by kernel_rfl) (by kernel_rfl) (fun _ _ _ h => h) rfl (fun _ _ => rfl) trivial ?_
              try simp only [Act.put, lqA, lqB, lqC, lqD, lqE, lqF]
              refine hm_run 1 43 (.int .i64 ((I2 : Nat) : Int)) rfl rfl (by kernel_rfl) (by kernel_rfl) (by kernel_rfl) (fun _ _ _ h => h) rfl (fun _ _ => rfl) trivial ?_
              try simp only [Act.put, lqA, lqB, lqC, lqD, lqE, lqF]
              refine hm_run 2 44 (.slice (some ⟨g, 0, none⟩) n c) rfl rfl (by kernel_rfl) (by kernel_rfl) (by kernel_rfl) (fun _ _ _ h => h) rfl (fun _ _ => rfl) trivial ?_
              try simp only [Act.put, lqA, lqB, lqC, lqD, lqE, lqF]
              refine hm_run 3 45 (.int .i64 ((I2 : Nat) : Int)) rfl rfl (by kernel_rfl) (by kernel_rfl) (by kernel_rfl) (fun _ _ _ h => h) rfl (fun _ _ => rfl) trivial ?_
              try simp only [Act.put, lqA, lqB, lqC, lqD, lqE, lqF]
              refine hm_run 4 46 (.int .i64 (((I2) - 1 : Nat) : Int)) rfl rfl (by kernel_rfl) (by kernel_rfl) (by kernel_rfl) (fun _ _ _ h => h) rfl (fun _ _ => exec_sub rfl rfl rfl (by have := BND.out; rw [IntKind.wrap_i64]; omega)) trivial ?_
              try simp only [Act.put, lqA, lqB, lqC, lqD, lqE, lqF]
              refine hm_run 5 47 (.slice (some ⟨g, 0, none⟩) n c) rfl rfl (by kernel_rfl) (by kernel_rfl) (by kernel_rfl) (fun _ _ _ h => h) rfl (fun _ _ => rfl) trivial ?_
              try simp only [Act.put, lqA, lqB, lqC, lqD, lqE, lqF]
              refine hm_run 6 48 (.int .i64 ((I2 : Nat) : Int)) rfl rfl (by kernel_rfl) (by kernel_rfl) (by kernel_rfl) (fun _ _ _ h => h) rfl (fun _ _ => rfl) trivial ?_
              try simp only [Act.put, lqA, lqB, lqC, lqD, lqE, lqF]
              refine hm_run 7 49 (.int .i64 (((I2) - 1 : Nat) : Int)) rfl rfl (by kernel_rfl) (by kernel_rfl) (by kernel_rfl) (fun _ _ _ h => h) rfl (fun _ _ => exec_sub rfl rfl rfl (by have := BND.out; rw [IntKind.wrap_i64]; omega)) trivial ?_
              try simp only [Act.put, lqA, lqB, lqC, lqD, lqE, lqF]
              refine hm_run 8 50 (.pointer (some ⟨g, 0 + ((I2) - 1) * 1, none⟩)) rfl rfl (by kernel_rfl) (by kernel_rfl) (by kernel_rfl) (fun _ _ _ h => h) rfl (fun W _ => exec_ix rfl (run_ix (k := 1) (j := (I2) - 1) Tryd.underlying54 (by kernel_rfl) (by have := BND.out; omega) rfl W)) trivial ?_
              try simp only [Act.put, lqA, lqB, lqC, lqD, lqE, lqF]
              refine hm_run 10 52 (.slice (some ⟨g, 0, none⟩) n c) rfl rfl (by kernel_rfl) (by kernel_rfl) (by kernel_rfl) (fun _ _ _ h => h) rfl (fun _ _ => rfl) trivial ?_
              try simp only [Act.put, lqA, lqB, lqC, lqD, lqE, lqF]
              refine hm_run 11 53 (.int .i64 ((I2 : Nat) : Int)) rfl rfl (by kernel_rfl) (by kernel_rfl) (by kernel_rfl) (fun _ _ _ h => h) rfl (fun _ _ => rfl) trivial ?_
              try simp only [Act.put, lqA, lqB, lqC, lqD, lqE, lqF]
              refine hm_run 12 54 (.pointer (some ⟨g, 0 + (I2) * 1, none⟩)) rfl rfl (by kernel_rfl) (by kernel_rfl) (by kernel_rfl) (fun _ _ _ h => h) rfl (fun W _ => exec_ix rfl (run_ix (k := 1) (j := I2) Tryd.underlying54 (by kernel_rfl) (by have := BND.out; omega) rfl W)) trivial ?_
              try simp only [Act.put, lqA, lqB, lqC, lqD, lqE, lqF]
              refine hm_two (i := 9) (j := 13) (by kernel_rfl) ?_ ?_
              · refine hm_step 9 rfl (by kernel_rfl) fun K hK => ?_
                try simp only [Act.put, lqA, lqB, lqC, lqD, lqE, lqF]
                refine mo_known (.int .u64 ((d2[(I2) - 1]! : Nat) : Int)) _ (exec_load rfl (run_load_one Tryd.underlying59 rfl (cell_dn N (by have := BND.out; omega)))) ?_
                refine hK _ _ trivial ?_
                clear hK K
                try simp only [Act.put, lqA, lqB, lqC, lqD, lqE, lqF]
                refine hm_one (i := 13) (by kernel_rfl) ?_
                refine hm_step 13 rfl (by kernel_rfl) fun K hK => ?_
                try simp only [Act.put, lqA, lqB, lqC, lqD, lqE, lqF]
                refine mo_known (.int .u64 ((d2[I2]! : Nat) : Int)) _ (exec_load rfl (run_load_one Tryd.underlying59 rfl (cell_dn N (by have := BND.out; omega)))) ?_
                refine hK _ _ trivial ?_
                clear hK K
                try simp only [Act.put, lqA, lqB, lqC, lqD, lqE, lqF]
                refine hm_run 14 56 (.pointer (some ⟨g, 0 + (I2) * 1, none⟩)) rfl rfl (by kernel_rfl) (by kernel_rfl) (by kernel_rfl) (fun _ _ _ h => h) rfl (fun W _ => exec_ix rfl (run_ix (k := 1) (j := I2) Tryd.underlying54 (by kernel_rfl) (by have := BND.out; omega) rfl W)) trivial ?_
                try simp only [Act.put, lqA, lqB, lqC, lqD, lqE, lqF]
                refine hm_one (i := 15) (by kernel_rfl) ?_
                refine hm_step 15 rfl (by kernel_rfl) fun K hK => ?_
                try simp only [Act.put, lqA, lqB, lqC, lqD, lqE, lqF]
                refine mo_vput (i := I2) (v := d2[(I2) - 1]!) (.tmp 56) (.tmp 51) rfl N rfl rfl (by have := BND.out; omega) ?_
                clear N
                intro w9 N hb9
                replace HB := Lib.hid (HB.out.trans hb9.out)
                clear hb9
                refine hK _ _ trivial ?_
                clear hK K
                try simp only [Act.put, lqA, lqB, lqC, lqD, lqE, lqF]
                refine hm_run 16 57 (.pointer (some ⟨g, 0 + ((I2) - 1) * 1, none⟩)) rfl rfl (by kernel_rfl) (by kernel_rfl) (by kernel_rfl) (fun _ _ _ h => h) rfl (fun W _ => exec_ix rfl (run_ix (k := 1) (j := (I2) - 1) Tryd.underlying54 (by kernel_rfl) (by have := BND.out; omega) rfl W)) trivial ?_
                try simp only [Act.put, lqA, lqB, lqC, lqD, lqE, lqF]
                refine hm_one (i := 17) (by kernel_rfl) ?_
                refine hm_step 17 rfl (by kernel_rfl) fun K hK => ?_
                try simp only [Act.put, lqA, lqB, lqC, lqD, lqE, lqF]
                refine mo_vput (i := (I2) - 1) (v := d2[I2]!) (.tmp 57) (.tmp 55) rfl N rfl rfl (by have := BND.out; omega) ?_
                clear N
                intro w9 N hb9
                replace HB := Lib.hid (HB.out.trans hb9.out)
                clear hb9
                refine hK _ _ trivial ?_
                clear hK K
                try simp only [Act.put, lqA, lqB, lqC, lqD, lqE, lqF]
                refine wpAnyH_done (by kernel_rfl) ?_ _
                go_wp2_with fail
                go_meet
                exact ⟨rfl, by rw [HS.out]; exact N, HB⟩
              · refine hm_step 13 rfl (by kernel_rfl) fun K hK => ?_
                try simp only [Act.put, lqA, lqB, lqC, lqD, lqE, lqF]
                refine mo_known (.int .u64 ((d2[I2]! : Nat) : Int)) _ (exec_load rfl (run_load_one Tryd.underlying59 rfl (cell_dn N (by have := BND.out; omega)))) ?_
                refine hK _ _ trivial ?_
                clear hK K
                try simp only [Act.put, lqA, lqB, lqC, lqD, lqE, lqF]
                refine hm_one (i := 9) (by kernel_rfl) ?_
                refine hm_step 9 rfl (by kernel_rfl) fun K hK => ?_
                try simp only [Act.put, lqA, lqB, lqC, lqD, lqE, lqF]
                refine mo_known (.int .u64 ((d2[(I2) - 1]! : Nat) : Int)) _ (exec_load rfl (run_load_one Tryd.underlying59 rfl (cell_dn N (by have := BND.out; omega)))) ?_
                refine hK _ _ trivial ?_
                clear hK K
                try simp only [Act.put, lqA, lqB, lqC, lqD, lqE, lqF]
                refine hm_run 14 56 (.pointer (some ⟨g, 0 + (I2) * 1, none⟩)) rfl rfl (by kernel_rfl) (by kernel_rfl) (by kernel_rfl) (fun _ _ _ h => h) rfl (fun W _ => exec_ix rfl (run_ix (k := 1) (j := I2) Tryd.underlying54 (by kernel_rfl) (by have := BND.out; omega) rfl W)) trivial ?_
                try simp only [Act.put, lqA, lqB, lqC, lqD, lqE, lqF]
                refine hm_one (i := 15) (by kernel_rfl) ?_
                refine hm_step 15 rfl (by kernel_rfl) fun K hK => ?_
                try simp only [Act.put, lqA, lqB, lqC, lqD, lqE, lqF]
                refine mo_vput (i := I2) (v := d2[(I2) - 1]!) (.tmp 56) (.tmp 51) rfl N rfl rfl (by have := BND.out; omega) ?_
                clear N
                intro w9 N hb9
                replace HB := Lib.hid (HB.out.trans hb9.out)
                clear hb9
                refine hK _ _ trivial ?_
                clear hK K
                try simp only [Act.put, lqA, lqB, lqC, lqD, lqE, lqF]
                refine hm_run 16 57 (.pointer (some ⟨g, 0 + ((I2) - 1) * 1, none⟩)) rfl rfl (by kernel_rfl) (by kernel_rfl) (by kernel_rfl) (fun _ _ _ h => h) rfl (fun W _ => exec_ix rfl (run_ix (k := 1) (j := (I2) - 1) Tryd.underlying54 (by kernel_rfl) (by have := BND.out; omega) rfl W)) trivial ?_
                try simp only [Act.put, lqA, lqB, lqC, lqD, lqE, lqF]
                refine hm_one (i := 17) (by kernel_rfl) ?_
                refine hm_step 17 rfl (by kernel_rfl) fun K hK => ?_
                try simp only [Act.put, lqA, lqB, lqC, lqD, lqE, lqF]
                refine mo_vput (i := (I2) - 1) (v := d2[I2]!) (.tmp 57) (.tmp 55) rfl N rfl rfl (by have := BND.out; omega) ?_
                clear N
                intro w9 N hb9
                replace HB := Lib.hid (HB.out.trans hb9.out)
                clear hb9
                refine hK _ _ trivial ?_
                clear hK K
                try simp only [Act.put, lqA, lqB, lqC, lqD, lqE, lqF]
                refine wpAnyH_done (by kernel_rfl) ?_ _
                go_wp2_with fail
                go_meet
                exact ⟨rfl, by rw [HS.out]; exact N, HB⟩
            case rest =>
              obtain ⟨rfl, N, HB⟩ := hcut
              clear HS
              obtain ⟨c1, hc1⟩ : ∃ c1, c1 = decide ((2 : Int) ≤ ((I2 - a : Nat) : Int)) := ⟨_, rfl⟩
              have HC1 := Lib.hid hc1.symm
              clear hc1
              go_upto_if 61 with (first | ((with_reducible refine wpList_at 60 rfl ?_); refine wpList_kn rfl (.int .i64 ((I2 - a : Nat) : Int)) (by exact exec_sub rfl rfl rfl (by have := BND.out; rw [IntKind.wrap_i64]; omega)) ?_) | ((with_reducible refine wpList_at 61 rfl ?_); refine wpList_kn rfl (.bool c1) (by exact exec_geqN rfl rfl rfl HC1.out) ?_))
              try simp only [Act.put, lqA, lqB, lqC, lqD, lqE, lqF]
              go_cut [8] (fun s8 wx => s8 = .int .i64 (st : Int) ∧ Hid (NRow B wx g n c D4 ∧ D4.size = n) ∧ Hid (Below B w wx))
              case first =>
                cases c1
                · have RE := Lib.hid (show d4 = D4 by rw [HD4.out, if_neg (by have := of_decide_eq_false HC1.out; omega)])
                  go_wp2_with fail
                  go_meet
                  exact ⟨rfl, by rw [← RE.out]; exact N, HB⟩
                · have SH := Lib.hid (show Go.Sort.shiftDown ltN (I2 - 1) d4 = D4 by rw [HD4.out, if_pos (by have := of_decide_eq_true HC1.out; omega)])
                  clear HD4 HC1
                  go_upto_region 14 with ((with_reducible refine wpList_at 63 rfl ?_); refine wpList_kn rfl (.int .i64 ((I2 - 1 : Nat) : Int)) (by exact exec_sub rfl rfl rfl (by have := BND.out; rw [IntKind.wrap_i64]; omega)) ?_)
                  go_loopg [9] (I2 - 1) (fun k s9 wr => ∃ d3 : Array Nat, k ≤ I2 - 1 ∧ s9 = .int .i64 (k : Int) ∧ Hid (NRow B wr g n c d3 ∧ d3.size = n) ∧ Hid (Go.Sort.shiftDown ltN k d3 = D4) ∧ Hid (Below B w wr))
                  case atStart => exact ⟨_, Nat.le_refl _, rfl, N, SH, HB⟩
                  case round =>
                    clear N SH HB
                    obtain ⟨d3, hpj, rfl, N, SH, HB⟩ := hrel
                    obtain ⟨p, rfl⟩ : ∃ p : Nat, p = gk := ⟨_, rfl⟩
                    replace BND := Lib.hid (And.intro hpj BND.out)
                    clear hpj
                    by_cases hp : 1 ≤ p
                    · have GE := Lib.hid (show decide ((1 : Int) ≤ (p : Int)) = true from decide_eq_true (by omega))
                      replace BND := Lib.hid (And.intro hp BND.out)
                      by_cases hl : d3[p]! < d3[(p) - 1]!
                      · have LQ := Lib.hid (decide_eq_true hl)
                        have SHX := Lib.hid (show Go.Sort.shiftDown ltN (p - 1) (Go.Sort.swp d3 p (p - 1)) = D4 by have h := SH.out; rw [shd_pos _ hp, if_neg (by simp only [ltN]; rw [LQ.out]; decide)] at h; exact h)
                        clear SH hp hl
                        go_upto_region 16 with ((with_reducible refine wpList_at 65 rfl ?_); refine wpList_kn rfl (.bool true) (by exact exec_geqN rfl rfl rfl GE.out) ?_)
                        refine wp_region_T (Φ := fun X => (NRow B X g n c d3 ∧ d3.size = n) ∧ Below B w X) (S := fun X => (NRow B X g n c d3 ∧ d3.size = n) ∧ Below B w X) (Lib.hid ⟨N.out, HB.out⟩) (fun X h => ⟨⟨h.1.1.below ((Below.refl _ _).drew), h.1.2⟩, h.2.drew⟩) (fun X h => h) (by kernel_rfl) ?_
                        clear N HB
                        intro wx TT S0
                        have N := Lib.hid TT.out.1
                        have HB := Lib.hid TT.out.2
                        clear TT
                        refine hm_run 0 68 (.slice (some ⟨g, 0, none⟩) n c) rfl rfl (by kernel_rfl) (by kernel_rfl) (by kernel_rfl) (fun _ _ _ h => h) rfl (fun _ _ => rfl) S0.out ?_
                        try simp only [Act.put, lqA, lqB, lqC, lqD, lqE, lqF]
                        refine hm_run 1 69 (.int .i64 ((p : Nat) : Int)) rfl rfl (by kernel_rfl) (by kernel_rfl) (by kernel_rfl) (fun _ _ _ h => h) rfl (fun _ _ => rfl) S0.out ?_
                        try simp only [Act.put, lqA, lqB, lqC, lqD, lqE, lqF]
                        refine hm_run 2 70 (.pointer (some ⟨g, 0 + (p) * 1, none⟩)) rfl rfl (by kernel_rfl) (by kernel_rfl) (by kernel_rfl) (fun _ _ _ h => h) rfl (fun W _ => exec_ix rfl (run_ix (k := 1) (j := p) Tryd.underlying54 (by kernel_rfl) (by have := BND.out; omega) rfl W)) S0.out ?_
                        try simp only [Act.put, lqA, lqB, lqC, lqD, lqE, lqF]
                        refine hm_run 3 71 (.int .u64 ((d3[p]! : Nat) : Int)) rfl rfl (by kernel_rfl) (by kernel_rfl) (by kernel_rfl) (fun _ _ _ h => h) rfl (fun W hW => exec_load rfl (run_load_one Tryd.underlying59 rfl (cell_dn (Lib.hid hW.1) (by have := BND.out; omega)))) S0.out ?_
                        try simp only [Act.put, lqA, lqB, lqC, lqD, lqE, lqF]
                        refine hm_run 4 72 (.slice (some ⟨g, 0, none⟩) n c) rfl rfl (by kernel_rfl) (by kernel_rfl) (by kernel_rfl) (fun _ _ _ h => h) rfl (fun _ _ => rfl) S0.out ?_
                        try simp only [Act.put, lqA, lqB, lqC, lqD, lqE, lqF]
                        refine hm_run 5 73 (.int .i64 ((p : Nat) : Int)) rfl rfl (by kernel_rfl) (by kernel_rfl) (by kernel_rfl) (fun _ _ _ h => h) rfl (fun _ _ => rfl) S0.out ?_
                        try simp only [Act.put, lqA, lqB, lqC, lqD, lqE, lqF]
                        refine hm_run 6 74 (.int .i64 (((p) - 1 : Nat) : Int)) rfl rfl (by kernel_rfl) (by kernel_rfl) (by kernel_rfl) (fun _ _ _ h => h) rfl (fun _ _ => exec_sub rfl rfl rfl (by have := BND.out; rw [IntKind.wrap_i64]; omega)) S0.out ?_
                        try simp only [Act.put, lqA, lqB, lqC, lqD, lqE, lqF]
                        refine hm_run 7 75 (.pointer (some ⟨g, 0 + ((p) - 1) * 1, none⟩)) rfl rfl (by kernel_rfl) (by kernel_rfl) (by kernel_rfl) (fun _ _ _ h => h) rfl (fun W _ => exec_ix rfl (run_ix (k := 1) (j := (p) - 1) Tryd.underlying54 (by kernel_rfl) (by have := BND.out; omega) rfl W)) S0.out ?_
                        try simp only [Act.put, lqA, lqB, lqC, lqD, lqE, lqF]
                        refine hm_run 8 76 (.int .u64 ((d3[(p) - 1]! : Nat) : Int)) rfl rfl (by kernel_rfl) (by kernel_rfl) (by kernel_rfl) (fun _ _ _ h => h) rfl (fun W hW => exec_load rfl (run_load_one Tryd.underlying59 rfl (cell_dn (Lib.hid hW.1) (by have := BND.out; omega)))) S0.out ?_
                        try simp only [Act.put, lqA, lqB, lqC, lqD, lqE, lqF]
                        refine hm_one (i := 9) (by kernel_rfl) ?_
                        refine hm_step 9 rfl (by kernel_rfl) fun K hK => ?_
                        try simp only [Act.put, lqA, lqB, lqC, lqD, lqE, lqF]
                        go_simp
                        go_at_call 58
                        refine (less_any _ _ _).mono ?_
                        rintro e w7 ⟨rfl, rfl⟩
                        rw [LQ.out]
                        refine hK _ _ S0.out ?_
                        clear hK K
                        try simp only [Act.put, lqA, lqB, lqC, lqD, lqE, lqF]
                        refine hm_run 10 78 (.bool false) rfl rfl (by kernel_rfl) (by kernel_rfl) (by kernel_rfl) (fun _ _ _ h => h) rfl (fun _ _ => rfl) S0.out ?_
                        try simp only [Act.put, lqA, lqB, lqC, lqD, lqE, lqF]
                        refine wpAnyH_done (by kernel_rfl) ?_ _
                        go_upto_region 17 with fail
                        refine wp_region_T (Φ := fun X => (NRow B X g n c d3 ∧ d3.size = n) ∧ Below B w X) (S := fun _ => True) (Lib.hid ⟨N.out, HB.out⟩) (fun X h => ⟨⟨h.1.1.below ((Below.refl _ _).drew), h.1.2⟩, h.2.drew⟩) (fun _ _ => trivial) (by kernel_rfl) ?_
                        clear N HB
                        intro wx TT S0
                        have N := Lib.hid TT.out.1
                        have HB := Lib.hid TT.out.2
                        clear TT
                        refine hm_run 0 79 (.slice (some ⟨g, 0, none⟩) n c) rfl rfl (by kernel_rfl) (by kernel_rfl) (by kernel_rfl) (fun _ _ _ h => h) rfl (fun _ _ => rfl) trivial ?_
                        try simp only [Act.put, lqA, lqB, lqC, lqD, lqE, lqF]
                        refine hm_run 1 80 (.int .i64 ((p : Nat) : Int)) rfl rfl (by kernel_rfl) (by kernel_rfl) (by kernel_rfl) (fun _ _ _ h => h) rfl (fun _ _ => rfl) trivial ?_
                        try simp only [Act.put, lqA, lqB, lqC, lqD, lqE, lqF]
                        refine hm_run 2 81 (.slice (some ⟨g, 0, none⟩) n c) rfl rfl (by kernel_rfl) (by kernel_rfl) (by kernel_rfl) (fun _ _ _ h => h) rfl (fun _ _ => rfl) trivial ?_
                        try simp only [Act.put, lqA, lqB, lqC, lqD, lqE, lqF]
                        refine hm_run 3 82 (.int .i64 ((p : Nat) : Int)) rfl rfl (by kernel_rfl) (by kernel_rfl) (by kernel_rfl) (fun _ _ _ h => h) rfl (fun _ _ => rfl) trivial ?_
                        try simp only [Act.put, lqA, lqB, lqC, lqD, lqE, lqF]
                        refine hm_run 4 83 (.int .i64 (((p) - 1 : Nat) : Int)) rfl rfl (by kernel_rfl) (by kernel_rfl) (by kernel_rfl) (fun _ _ _ h => h) rfl (fun _ _ => exec_sub rfl rfl rfl (by have := BND.out; rw [IntKind.wrap_i64]; omega)) trivial ?_
                        try simp only [Act.put, lqA, lqB, lqC, lqD, lqE, lqF]
                        refine hm_run 5 84 (.slice (some ⟨g, 0, none⟩) n c) rfl rfl (by kernel_rfl) (by kernel_rfl) (by kernel_rfl) (fun _ _ _ h => h) rfl (fun _ _ => rfl) trivial ?_
                        try simp only [Act.put, lqA, lqB, lqC, lqD, lqE, lqF]
                        refine hm_run 6 85 (.int .i64 ((p : Nat) : Int)) rfl rfl (by kernel_rfl) (by kernel_rfl) (by kernel_rfl) (fun _ _ _ h => h) rfl (fun _ _ => rfl) trivial ?_
                        try simp only [Act.put, lqA, lqB, lqC, lqD, lqE, lqF]
                        refine hm_run 7 86 (.int .i64 (((p) - 1 : Nat) : Int)) rfl rfl (by kernel_rfl) (by kernel_rfl) (by kernel_rfl) (fun _ _ _ h => h) rfl (fun _ _ => exec_sub rfl rfl rfl (by have := BND.out; rw [IntKind.wrap_i64]; omega)) trivial ?_
                        try simp only [Act.put, lqA, lqB, lqC, lqD, lqE, lqF]
                        refine hm_run 8 87 (.pointer (some ⟨g, 0 + ((p) - 1) * 1, none⟩)) rfl rfl (by kernel_rfl) (by kernel_rfl) (by kernel_rfl) (fun _ _ _ h => h) rfl (fun W _ => exec_ix rfl (run_ix (k := 1) (j := (p) - 1) Tryd.underlying54 (by kernel_rfl) (by have := BND.out; omega) rfl W)) trivial ?_
                        try simp only [Act.put, lqA, lqB, lqC, lqD, lqE, lqF]
                        refine hm_run 10 89 (.slice (some ⟨g, 0, none⟩) n c) rfl rfl (by kernel_rfl) (by kernel_rfl) (by kernel_rfl) (fun _ _ _ h => h) rfl (fun _ _ => rfl) trivial ?_
                        try simp only [Act.put, lqA, lqB, lqC, lqD, lqE, lqF]
                        refine hm_run 11 90 (.int .i64 ((p : Nat) : Int)) rfl rfl (by kernel_rfl) (by kernel_rfl) (by kernel_rfl) (fun _ _ _ h => h) rfl (fun _ _ => rfl) trivial ?_
                        try simp only [Act.put, lqA, lqB, lqC, lqD, lqE, lqF]
                        refine hm_run 12 91 (.pointer (some ⟨g, 0 + (p) * 1, none⟩)) rfl rfl (by kernel_rfl) (by kernel_rfl) (by kernel_rfl) (fun _ _ _ h => h) rfl (fun W _ => exec_ix rfl (run_ix (k := 1) (j := p) Tryd.underlying54 (by kernel_rfl) (by have := BND.out; omega) rfl W)) trivial ?_
                        try simp only [Act.put, lqA, lqB, lqC, lqD, lqE, lqF]
                        refine hm_two (i := 9) (j := 13) (by kernel_rfl) ?_ ?_
                        · refine hm_step 9 rfl (by kernel_rfl) fun K hK => ?_
                          try simp only [Act.put, lqA, lqB, lqC, lqD, lqE, lqF]
                          refine mo_known (.int .u64 ((d3[(p) - 1]! : Nat) : Int)) _ (exec_load rfl (run_load_one Tryd.underlying59 rfl (cell_dn N (by have := BND.out; omega)))) ?_
                          refine hK _ _ trivial ?_
                          clear hK K
                          try simp only [Act.put, lqA, lqB, lqC, lqD, lqE, lqF]
                          refine hm_one (i := 13) (by kernel_rfl) ?_
                          refine hm_step 13 rfl (by kernel_rfl) fun K hK => ?_
                          try simp only [Act.put, lqA, lqB, lqC, lqD, lqE, lqF]
                          refine mo_known (.int .u64 ((d3[p]! : Nat) : Int)) _ (exec_load rfl (run_load_one Tryd.underlying59 rfl (cell_dn N (by have := BND.out; omega)))) ?_
                          refine hK _ _ trivial ?_
                          clear hK K
                          try simp only [Act.put, lqA, lqB, lqC, lqD, lqE, lqF]
                          refine hm_run 14 93 (.pointer (some ⟨g, 0 + (p) * 1, none⟩)) rfl rfl (by kernel_rfl) (by kernel_rfl) (by kernel_rfl) (fun _ _ _ h => h) rfl (fun W _ => exec_ix rfl (run_ix (k := 1) (j := p) Tryd.underlying54 (by kernel_rfl) (by have := BND.out; omega) rfl W)) trivial ?_
                          try simp only [Act.put, lqA, lqB, lqC, lqD, lqE, lqF]
                          refine hm_one (i := 15) (by kernel_rfl) ?_
                          refine hm_step 15 rfl (by kernel_rfl) fun K hK => ?_
                          try simp only [Act.put, lqA, lqB, lqC, lqD, lqE, lqF]
                          refine mo_vput (i := p) (v := d3[(p) - 1]!) (.tmp 93) (.tmp 88) rfl N rfl rfl (by have := BND.out; omega) ?_
                          clear N
                          intro w9 N hb9
                          replace HB := Lib.hid (HB.out.trans hb9.out)
                          clear hb9
                          refine hK _ _ trivial ?_
                          clear hK K
                          try simp only [Act.put, lqA, lqB, lqC, lqD, lqE, lqF]
                          refine hm_run 16 94 (.pointer (some ⟨g, 0 + ((p) - 1) * 1, none⟩)) rfl rfl (by kernel_rfl) (by kernel_rfl) (by kernel_rfl) (fun _ _ _ h => h) rfl (fun W _ => exec_ix rfl (run_ix (k := 1) (j := (p) - 1) Tryd.underlying54 (by kernel_rfl) (by have := BND.out; omega) rfl W)) trivial ?_
                          try simp only [Act.put, lqA, lqB, lqC, lqD, lqE, lqF]
                          refine hm_one (i := 17) (by kernel_rfl) ?_
                          refine hm_step 17 rfl (by kernel_rfl) fun K hK => ?_
                          try simp only [Act.put, lqA, lqB, lqC, lqD, lqE, lqF]
                          refine mo_vput (i := (p) - 1) (v := d3[p]!) (.tmp 94) (.tmp 92) rfl N rfl rfl (by have := BND.out; omega) ?_
                          clear N
                          intro w9 N hb9
                          replace HB := Lib.hid (HB.out.trans hb9.out)
                          clear hb9
                          refine hK _ _ trivial ?_
                          clear hK K
                          try simp only [Act.put, lqA, lqB, lqC, lqD, lqE, lqF]
                          refine wpAnyH_done (by kernel_rfl) ?_ _
                          go_wp2_with ((with_reducible refine wpList_at 67 rfl ?_); refine wpList_kn rfl (.int .i64 ((p - 1 : Nat) : Int)) (by exact exec_sub rfl rfl rfl (by have := BND.out; rw [IntKind.wrap_i64]; omega)) ?_)
                          go_roundg (p - 1)
                          case measure => have := BND.out; omega
                          case rel => exact ⟨((d3.setIfInBounds (p) d3[(p) - 1]!).setIfInBounds ((p) - 1) d3[p]!), by have := BND.out; omega, rfl, N, SHX, HB⟩
                        · refine hm_step 13 rfl (by kernel_rfl) fun K hK => ?_
                          try simp only [Act.put, lqA, lqB, lqC, lqD, lqE, lqF]
                          refine mo_known (.int .u64 ((d3[p]! : Nat) : Int)) _ (exec_load rfl (run_load_one Tryd.underlying59 rfl (cell_dn N (by have := BND.out; omega)))) ?_
                          refine hK _ _ trivial ?_
                          clear hK K
                          try simp only [Act.put, lqA, lqB, lqC, lqD, lqE, lqF]
                          refine hm_one (i := 9) (by kernel_rfl) ?_
                          refine hm_step 9 rfl (by kernel_rfl) fun K hK => ?_
                          try simp only [Act.put, lqA, lqB, lqC, lqD, lqE, lqF]
                          refine mo_known (.int .u64 ((d3[(p) - 1]! : Nat) : Int)) _ (exec_load rfl (run_load_one Tryd.underlying59 rfl (cell_dn N (by have := BND.out; omega)))) ?_
                          refine hK _ _ trivial ?_
                          clear hK K
                          try simp only [Act.put, lqA, lqB, lqC, lqD, lqE, lqF]
                          refine hm_run 14 93 (.pointer (some ⟨g, 0 + (p) * 1, none⟩)) rfl rfl (by kernel_rfl) (by kernel_rfl) (by kernel_rfl) (fun _ _ _ h => h) rfl (fun W _ => exec_ix rfl (run_ix (k := 1) (j := p) Tryd.underlying54 (by kernel_rfl) (by have := BND.out; omega) rfl W)) trivial ?_
                          try simp only [Act.put, lqA, lqB, lqC, lqD, lqE, lqF]
                          refine hm_one (i := 15) (by kernel_rfl) ?_
                          refine hm_step 15 rfl (by kernel_rfl) fun K hK => ?_
                          try simp only [Act.put, lqA, lqB, lqC, lqD, lqE, lqF]
                          refine mo_vput (i := p) (v := d3[(p) - 1]!) (.tmp 93) (.tmp 88) rfl N rfl rfl (by have := BND.out; omega) ?_
                          clear N
                          intro w9 N hb9
                          replace HB := Lib.hid (HB.out.trans hb9.out)
                          clear hb9
                          refine hK _ _ trivial ?_
                          clear hK K
                          try simp only [Act.put, lqA, lqB, lqC, lqD, lqE, lqF]
                          refine hm_run 16 94 (.pointer (some ⟨g, 0 + ((p) - 1) * 1, none⟩)) rfl rfl (by kernel_rfl) (by kernel_rfl) (by kernel_rfl) (fun _ _ _ h => h) rfl (fun W _ => exec_ix rfl (run_ix (k := 1) (j := (p) - 1) Tryd.underlying54 (by kernel_rfl) (by have := BND.out; omega) rfl W)) trivial ?_
                          try simp only [Act.put, lqA, lqB, lqC, lqD, lqE, lqF]
                          refine hm_one (i := 17) (by kernel_rfl) ?_
                          refine hm_step 17 rfl (by kernel_rfl) fun K hK => ?_
                          try simp only [Act.put, lqA, lqB, lqC, lqD, lqE, lqF]
                          refine mo_vput (i := (p) - 1) (v := d3[p]!) (.tmp 94) (.tmp 92) rfl N rfl rfl (by have := BND.out; omega) ?_
                          clear N
                          intro w9 N hb9
                          replace HB := Lib.hid (HB.out.trans hb9.out)
                          clear hb9
                          refine hK _ _ trivial ?_
                          clear hK K
                          try simp only [Act.put, lqA, lqB, lqC, lqD, lqE, lqF]
                          refine wpAnyH_done (by kernel_rfl) ?_ _
                          go_wp2_with ((with_reducible refine wpList_at 67 rfl ?_); refine wpList_kn rfl (.int .i64 ((p - 1 : Nat) : Int)) (by exact exec_sub rfl rfl rfl (by have := BND.out; rw [IntKind.wrap_i64]; omega)) ?_)
                          go_roundg (p - 1)
                          case measure => have := BND.out; omega
                          case rel => exact ⟨((d3.setIfInBounds (p) d3[(p) - 1]!).setIfInBounds ((p) - 1) d3[p]!), by have := BND.out; omega, rfl, N, SHX, HB⟩
                      · have LQ := Lib.hid (decide_eq_false hl)
                        have RE := Lib.hid (show d3 = D4 by have h := SH.out; rw [shd_pos _ hp, if_pos (by simp only [ltN]; rw [LQ.out]; rfl)] at h; exact h)
                        clear SH hp hl
                        go_upto_region 16 with ((with_reducible refine wpList_at 65 rfl ?_); refine wpList_kn rfl (.bool true) (by exact exec_geqN rfl rfl rfl GE.out) ?_)
                        refine wp_region_T (Φ := fun X => (NRow B X g n c d3 ∧ d3.size = n) ∧ Below B w X) (S := fun X => (NRow B X g n c d3 ∧ d3.size = n) ∧ Below B w X) (Lib.hid ⟨N.out, HB.out⟩) (fun X h => ⟨⟨h.1.1.below ((Below.refl _ _).drew), h.1.2⟩, h.2.drew⟩) (fun X h => h) (by kernel_rfl) ?_
                        clear N HB
                        intro wx TT S0
                        have N := Lib.hid TT.out.1
                        have HB := Lib.hid TT.out.2
                        clear TT
                        refine hm_run 0 68 (.slice (some ⟨g, 0, none⟩) n c) rfl rfl (by kernel_rfl) (by kernel_rfl) (by kernel_rfl) (fun _ _ _ h => h) rfl (fun _ _ => rfl) S0.out ?_
                        try simp only [Act.put, lqA, lqB, lqC, lqD, lqE, lqF]
                        refine hm_run 1 69 (.int .i64 ((p : Nat) : Int)) rfl rfl (by kernel_rfl) (by kernel_rfl) (by kernel_rfl) (fun _ _ _ h => h) rfl (fun _ _ => rfl) S0.out ?_
                        try simp only [Act.put, lqA, lqB, lqC, lqD, lqE, lqF]
                        refine hm_run 2 70 (.pointer (some ⟨g, 0 + (p) * 1, none⟩)) rfl rfl (by kernel_rfl) (by kernel_rfl) (by kernel_rfl) (fun _ _ _ h => h) rfl (fun W _ => exec_ix rfl (run_ix (k := 1) (j := p) Tryd.underlying54 (by kernel_rfl) (by have := BND.out; omega) rfl W)) S0.out ?_
                        try simp only [Act.put, lqA, lqB, lqC, lqD, lqE, lqF]
                        refine hm_run 3 71 (.int .u64 ((d3[p]! : Nat) : Int)) rfl rfl (by kernel_rfl) (by kernel_rfl) (by kernel_rfl) (fun _ _ _ h => h) rfl (fun W hW => exec_load rfl (run_load_one Tryd.underlying59 rfl (cell_dn (Lib.hid hW.1) (by have := BND.out; omega)))) S0.out ?_
                        try simp only [Act.put, lqA, lqB, lqC, lqD, lqE, lqF]
                        refine hm_run 4 72 (.slice (some ⟨g, 0, none⟩) n c) rfl rfl (by kernel_rfl) (by kernel_rfl) (by kernel_rfl) (fun _ _ _ h => h) rfl (fun _ _ => rfl) S0.out ?_
                        try simp only [Act.put, lqA, lqB, lqC, lqD, lqE, lqF]
                        refine hm_run 5 73 (.int .i64 ((p : Nat) : Int)) rfl rfl (by kernel_rfl) (by kernel_rfl) (by kernel_rfl) (fun _ _ _ h => h) rfl (fun _ _ => rfl) S0.out ?_
                        try simp only [Act.put, lqA, lqB, lqC, lqD, lqE, lqF]
                        refine hm_run 6 74 (.int .i64 (((p) - 1 : Nat) : Int)) rfl rfl (by kernel_rfl) (by kernel_rfl) (by kernel_rfl) (fun _ _ _ h => h) rfl (fun _ _ => exec_sub rfl rfl rfl (by have := BND.out; rw [IntKind.wrap_i64]; omega)) S0.out ?_
                        try simp only [Act.put, lqA, lqB, lqC, lqD, lqE, lqF]
                        refine hm_run 7 75 (.pointer (some ⟨g, 0 + ((p) - 1) * 1, none⟩)) rfl rfl (by kernel_rfl) (by kernel_rfl) (by kernel_rfl) (fun _ _ _ h => h) rfl (fun W _ => exec_ix rfl (run_ix (k := 1) (j := (p) - 1) Tryd.underlying54 (by kernel_rfl) (by have := BND.out; omega) rfl W)) S0.out ?_
                        try simp only [Act.put, lqA, lqB, lqC, lqD, lqE, lqF]
                        refine hm_run 8 76 (.int .u64 ((d3[(p) - 1]! : Nat) : Int)) rfl rfl (by kernel_rfl) (by kernel_rfl) (by kernel_rfl) (fun _ _ _ h => h) rfl (fun W hW => exec_load rfl (run_load_one Tryd.underlying59 rfl (cell_dn (Lib.hid hW.1) (by have := BND.out; omega)))) S0.out ?_
                        try simp only [Act.put, lqA, lqB, lqC, lqD, lqE, lqF]
                        refine hm_one (i := 9) (by kernel_rfl) ?_
                        refine hm_step 9 rfl (by kernel_rfl) fun K hK => ?_
                        try simp only [Act.put, lqA, lqB, lqC, lqD, lqE, lqF]
                        go_simp
                        go_at_call 58
                        refine (less_any _ _ _).mono ?_
                        rintro e w7 ⟨rfl, rfl⟩
                        rw [LQ.out]
                        refine hK _ _ S0.out ?_
                        clear hK K
                        try simp only [Act.put, lqA, lqB, lqC, lqD, lqE, lqF]
                        refine hm_run 10 78 (.bool true) rfl rfl (by kernel_rfl) (by kernel_rfl) (by kernel_rfl) (fun _ _ _ h => h) rfl (fun _ _ => rfl) S0.out ?_
                        try simp only [Act.put, lqA, lqB, lqC, lqD, lqE, lqF]
                        refine wpAnyH_done (by kernel_rfl) ?_ _
                        go_wp2_with fail
                        go_meet
                        exact ⟨rfl, by rw [← RE.out]; exact N, HB⟩
                    · have GE := Lib.hid (show decide ((1 : Int) ≤ (p : Int)) = false from decide_eq_false (by omega))
                      have RE := Lib.hid (show d3 = D4 by have h := SH.out; rw [shd_off _ hp] at h; exact h)
                      clear SH hp
                      go_wp2_with ((with_reducible refine wpList_at 65 rfl ?_); refine wpList_kn rfl (.bool false) (by exact exec_geqN rfl rfl rfl GE.out) ?_)
                      go_meet
                      exact ⟨rfl, by rw [← RE.out]; exact N, HB⟩
              case rest =>
                obtain ⟨rfl, N, HB⟩ := hcut
                clear HC1 HD4
                by_cases hc2 : 2 ≤ b - I2
                · have HC2 := Lib.hid (show decide ((2 : Int) ≤ ((b - I2 : Nat) : Int)) = true from decide_eq_true (by omega))
                  have SH := Lib.hid (show Go.Sort.shiftUp ltN b (I2 + 1) D4 = D5 by rw [HD5.out, if_pos hc2])
                  clear hc2 HD5
                  go_upto_region 20 with (first | ((with_reducible refine wpList_at 100 rfl ?_); refine wpList_kn rfl (.int .i64 ((I2 + 1 : Nat) : Int)) (by exact exec_add rfl rfl rfl (by have := BND.out; rw [IntKind.wrap_i64]; omega)) ?_) | ((with_reducible refine wpList_at 97 rfl ?_); refine wpList_kn rfl (.int .i64 ((b - I2 : Nat) : Int)) (by exact exec_sub rfl rfl rfl (by have := BND.out; rw [IntKind.wrap_i64]; omega)) ?_) | ((with_reducible refine wpList_at 98 rfl ?_); refine wpList_kn rfl (.bool true) (by exact exec_geqN rfl rfl rfl HC2.out) ?_))
                  go_loopg [10] (b - (I2 + 1)) (fun k s10 wr => ∃ (p : Nat) (d3 : Array Nat), b - p = k ∧ I2 < p ∧ p ≤ b ∧ s10 = .int .i64 (p : Int) ∧ Hid (NRow B wr g n c d3 ∧ d3.size = n) ∧ Hid (Go.Sort.shiftUp ltN b p d3 = D5) ∧ Hid (Below B w wr))
                  case atStart => exact ⟨I2 + 1, _, rfl, Nat.lt_succ_self _, by have := BND.out; omega, rfl, N, SH, HB⟩
                  case round =>
                    clear N SH HB
                    obtain ⟨p, d3, hk, hIp, hpb, rfl, N, SH, HB⟩ := hrel
                    have KP := Lib.hid hk
                    replace BND := Lib.hid (And.intro hIp (And.intro hpb BND.out))
                    clear hk hIp hpb
                    by_cases hp : p < b
                    · have GE := Lib.hid (show decide ((p : Int) < (b : Int)) = true from decide_eq_true (by omega))
                      replace BND := Lib.hid (And.intro hp BND.out)
                      by_cases hl : d3[p]! < d3[(p) - 1]!
                      · have LQ := Lib.hid (decide_eq_true hl)
                        have SHX := Lib.hid (show Go.Sort.shiftUp ltN b (p + 1) (Go.Sort.swp d3 p (p - 1)) = D5 by have h := SH.out; rw [shu_pos _ hp, if_neg (by simp only [ltN]; rw [LQ.out]; decide)] at h; exact h)
                        clear SH hp hl
                        go_upto_region 22 with ((with_reducible refine wpList_at 103 rfl ?_); refine wpList_kn rfl (.bool true) (by exact exec_lssi rfl rfl rfl GE.out) ?_)
                        refine wp_region_T (Φ := fun X => (NRow B X g n c d3 ∧ d3.size = n) ∧ Below B w X) (S := fun X => (NRow B X g n c d3 ∧ d3.size = n) ∧ Below B w X) (Lib.hid ⟨N.out, HB.out⟩) (fun X h => ⟨⟨h.1.1.below ((Below.refl _ _).drew), h.1.2⟩, h.2.drew⟩) (fun X h => h) (by kernel_rfl) ?_
                        clear N HB
                        intro wx TT S0
                        have N := Lib.hid TT.out.1
                        have HB := Lib.hid TT.out.2
                        clear TT
                        refine hm_run 0 106 (.slice (some ⟨g, 0, none⟩) n c) rfl rfl (by kernel_rfl) (by kernel_rfl) (by kernel_rfl) (fun _ _ _ h => h) rfl (fun _ _ => rfl) S0.out ?_
                        try simp only [Act.put, lqA, lqB, lqC, lqD, lqE, lqF]
                        refine hm_run 1 107 (.int .i64 ((p : Nat) : Int)) rfl rfl (by kernel_rfl) (by kernel_rfl) (by kernel_rfl) (fun _ _ _ h => h) rfl (fun _ _ => rfl) S0.out ?_
                        try simp only [Act.put, lqA, lqB, lqC, lqD, lqE, lqF]
                        refine hm_run 2 108 (.pointer (some ⟨g, 0 + (p) * 1, none⟩)) rfl rfl (by kernel_rfl) (by kernel_rfl) (by kernel_rfl) (fun _ _ _ h => h) rfl (fun W _ => exec_ix rfl (run_ix (k := 1) (j := p) Tryd.underlying54 (by kernel_rfl) (by have := BND.out; omega) rfl W)) S0.out ?_
                        try simp only [Act.put, lqA, lqB, lqC, lqD, lqE, lqF]
                        refine hm_run 3 109 (.int .u64 ((d3[p]! : Nat) : Int)) rfl rfl (by kernel_rfl) (by kernel_rfl) (by kernel_rfl) (fun _ _ _ h => h) rfl (fun W hW => exec_load rfl (run_load_one Tryd.underlying59 rfl (cell_dn (Lib.hid hW.1) (by have := BND.out; omega)))) S0.out ?_
                        try simp only [Act.put, lqA, lqB, lqC, lqD, lqE, lqF]
                        refine hm_run 4 110 (.slice (some ⟨g, 0, none⟩) n c) rfl rfl (by kernel_rfl) (by kernel_rfl) (by kernel_rfl) (fun _ _ _ h => h) rfl (fun _ _ => rfl) S0.out ?_
                        try simp only [Act.put, lqA, lqB, lqC, lqD, lqE, lqF]
                        refine hm_run 5 111 (.int .i64 ((p : Nat) : Int)) rfl rfl (by kernel_rfl) (by kernel_rfl) (by kernel_rfl) (fun _ _ _ h => h) rfl (fun _ _ => rfl) S0.out ?_
                        try simp only [Act.put, lqA, lqB, lqC, lqD, lqE, lqF]
                        refine hm_run 6 112 (.int .i64 (((p) - 1 : Nat) : Int)) rfl rfl (by kernel_rfl) (by kernel_rfl) (by kernel_rfl) (fun _ _ _ h => h) rfl (fun _ _ => exec_sub rfl rfl rfl (by have := BND.out; rw [IntKind.wrap_i64]; omega)) S0.out ?_
                        try simp only [Act.put, lqA, lqB, lqC, lqD, lqE, lqF]
                        refine hm_run 7 113 (.pointer (some ⟨g, 0 + ((p) - 1) * 1, none⟩)) rfl rfl (by kernel_rfl) (by kernel_rfl) (by kernel_rfl) (fun _ _ _ h => h) rfl (fun W _ => exec_ix rfl (run_ix (k := 1) (j := (p) - 1) Tryd.underlying54 (by kernel_rfl) (by have := BND.out; omega) rfl W)) S0.out ?_
                        try simp only [Act.put, lqA, lqB, lqC, lqD, lqE, lqF]
                        refine hm_run 8 114 (.int .u64 ((d3[(p) - 1]! : Nat) : Int)) rfl rfl (by kernel_rfl) (by kernel_rfl) (by kernel_rfl) (fun _ _ _ h => h) rfl (fun W hW => exec_load rfl (run_load_one Tryd.underlying59 rfl (cell_dn (Lib.hid hW.1) (by have := BND.out; omega)))) S0.out ?_
                        try simp only [Act.put, lqA, lqB, lqC, lqD, lqE, lqF]
                        refine hm_one (i := 9) (by kernel_rfl) ?_
                        refine hm_step 9 rfl (by kernel_rfl) fun K hK => ?_
                        try simp only [Act.put, lqA, lqB, lqC, lqD, lqE, lqF]
                        go_simp
                        go_at_call 58
                        refine (less_any _ _ _).mono ?_
                        rintro e w7 ⟨rfl, rfl⟩
                        rw [LQ.out]
                        refine hK _ _ S0.out ?_
                        clear hK K
                        try simp only [Act.put, lqA, lqB, lqC, lqD, lqE, lqF]
                        refine hm_run 10 116 (.bool false) rfl rfl (by kernel_rfl) (by kernel_rfl) (by kernel_rfl) (fun _ _ _ h => h) rfl (fun _ _ => rfl) S0.out ?_
                        try simp only [Act.put, lqA, lqB, lqC, lqD, lqE, lqF]
                        refine wpAnyH_done (by kernel_rfl) ?_ _
                        go_upto_region 23 with fail
                        refine wp_region_T (Φ := fun X => (NRow B X g n c d3 ∧ d3.size = n) ∧ Below B w X) (S := fun _ => True) (Lib.hid ⟨N.out, HB.out⟩) (fun X h => ⟨⟨h.1.1.below ((Below.refl _ _).drew), h.1.2⟩, h.2.drew⟩) (fun _ _ => trivial) (by kernel_rfl) ?_
                        clear N HB
                        intro wx TT S0
                        have N := Lib.hid TT.out.1
                        have HB := Lib.hid TT.out.2
                        clear TT
                        refine hm_run 0 117 (.slice (some ⟨g, 0, none⟩) n c) rfl rfl (by kernel_rfl) (by kernel_rfl) (by kernel_rfl) (fun _ _ _ h => h) rfl (fun _ _ => rfl) trivial ?_
                        try simp only [Act.put, lqA, lqB, lqC, lqD, lqE, lqF]
                        refine hm_run 1 118 (.int .i64 ((p : Nat) : Int)) rfl rfl (by kernel_rfl) (by kernel_rfl) (by kernel_rfl) (fun _ _ _ h => h) rfl (fun _ _ => rfl) trivial ?_
                        try simp only [Act.put, lqA, lqB, lqC, lqD, lqE, lqF]
                        refine hm_run 2 119 (.slice (some ⟨g, 0, none⟩) n c) rfl rfl (by kernel_rfl) (by kernel_rfl) (by kernel_rfl) (fun _ _ _ h => h) rfl (fun _ _ => rfl) trivial ?_
                        try simp only [Act.put, lqA, lqB, lqC, lqD, lqE, lqF]
                        refine hm_run 3 120 (.int .i64 ((p : Nat) : Int)) rfl rfl (by kernel_rfl) (by kernel_rfl) (by kernel_rfl) (fun _ _ _ h => h) rfl (fun _ _ => rfl) trivial ?_
                        try simp only [Act.put, lqA, lqB, lqC, lqD, lqE, lqF]
                        refine hm_run 4 121 (.int .i64 (((p) - 1 : Nat) : Int)) rfl rfl (by kernel_rfl) (by kernel_rfl) (by kernel_rfl) (fun _ _ _ h => h) rfl (fun _ _ => exec_sub rfl rfl rfl (by have := BND.out; rw [IntKind.wrap_i64]; omega)) trivial ?_
                        try simp only [Act.put, lqA, lqB, lqC, lqD, lqE, lqF]
                        refine hm_run 5 122 (.slice (some ⟨g, 0, none⟩) n c) rfl rfl (by kernel_rfl) (by kernel_rfl) (by kernel_rfl) (fun _ _ _ h => h) rfl (fun _ _ => rfl) trivial ?_
                        try simp only [Act.put, lqA, lqB, lqC, lqD, lqE, lqF]
                        refine hm_run 6 123 (.int .i64 ((p : Nat) : Int)) rfl rfl (by kernel_rfl) (by kernel_rfl) (by kernel_rfl) (fun _ _ _ h => h) rfl (fun _ _ => rfl) trivial ?_
                        try simp only [Act.put, lqA, lqB, lqC, lqD, lqE, lqF]
                        refine hm_run 7 124 (.int .i64 (((p) - 1 : Nat) : Int)) rfl rfl (by kernel_rfl) (by kernel_rfl) (by kernel_rfl) (fun _ _ _ h => h) rfl (fun _ _ => exec_sub rfl rfl rfl (by have := BND.out; rw [IntKind.wrap_i64]; omega)) trivial ?_
                        try simp only [Act.put, lqA, lqB, lqC, lqD, lqE, lqF]
                        refine hm_run 8 125 (.pointer (some ⟨g, 0 + ((p) - 1) * 1, none⟩)) rfl rfl (by kernel_rfl) (by kernel_rfl) (by kernel_rfl) (fun _ _ _ h => h) rfl (fun W _ => exec_ix rfl (run_ix (k := 1) (j := (p) - 1) Tryd.underlying54 (by kernel_rfl) (by have := BND.out; omega) rfl W)) trivial ?_
                        try simp only [Act.put, lqA, lqB, lqC, lqD, lqE, lqF]
                        refine hm_run 10 127 (.slice (some ⟨g, 0, none⟩) n c) rfl rfl (by kernel_rfl) (by kernel_rfl) (by kernel_rfl) (fun _ _ _ h => h) rfl (fun _ _ => rfl) trivial ?_
                        try simp only [Act.put, lqA, lqB, lqC, lqD, lqE, lqF]
                        refine hm_run 11 128 (.int .i64 ((p : Nat) : Int)) rfl rfl (by kernel_rfl) (by kernel_rfl) (by kernel_rfl) (fun _ _ _ h => h) rfl (fun _ _ => rfl) trivial ?_
                        try simp only [Act.put, lqA, lqB, lqC, lqD, lqE, lqF]
                        refine hm_run 12 129 (.pointer (some ⟨g, 0 + (p) * 1, none⟩)) rfl rfl (by kernel_rfl) (by kernel_rfl) (by kernel_rfl) (fun _ _ _ h => h) rfl (fun W _ => exec_ix rfl (run_ix (k := 1) (j := p) Tryd.underlying54 (by kernel_rfl) (by have := BND.out; omega) rfl W)) trivial ?_
                        try simp only [Act.put, lqA, lqB, lqC, lqD, lqE, lqF]
                        refine hm_two (i := 9) (j := 13) (by kernel_rfl) ?_ ?_
                        · refine hm_step 9 rfl (by kernel_rfl) fun K hK => ?_
                          try simp only [Act.put, lqA, lqB, lqC, lqD, lqE, lqF]
                          refine mo_known (.int .u64 ((d3[(p) - 1]! : Nat) : Int)) _ (exec_load rfl (run_load_one Tryd.underlying59 rfl (cell_dn N (by have := BND.out; omega)))) ?_
                          refine hK _ _ trivial ?_
                          clear hK K
                          try simp only [Act.put, lqA, lqB, lqC, lqD, lqE, lqF]
                          refine hm_one (i := 13) (by kernel_rfl) ?_
                          refine hm_step 13 rfl (by kernel_rfl) fun K hK => ?_
                          try simp only [Act.put, lqA, lqB, lqC, lqD, lqE, lqF]
                          refine mo_known (.int .u64 ((d3[p]! : Nat) : Int)) _ (exec_load rfl (run_load_one Tryd.underlying59 rfl (cell_dn N (by have := BND.out; omega)))) ?_
                          refine hK _ _ trivial ?_
                          clear hK K
                          try simp only [Act.put, lqA, lqB, lqC, lqD, lqE, lqF]
                          refine hm_run 14 131 (.pointer (some ⟨g, 0 + (p) * 1, none⟩)) rfl rfl (by kernel_rfl) (by kernel_rfl) (by kernel_rfl) (fun _ _ _ h => h) rfl (fun W _ => exec_ix rfl (run_ix (k := 1) (j := p) Tryd.underlying54 (by kernel_rfl) (by have := BND.out; omega) rfl W)) trivial ?_
                          try simp only [Act.put, lqA, lqB, lqC, lqD, lqE, lqF]
                          refine hm_one (i := 15) (by kernel_rfl) ?_
                          refine hm_step 15 rfl (by kernel_rfl) fun K hK => ?_
                          try simp only [Act.put, lqA, lqB, lqC, lqD, lqE, lqF]
                          refine mo_vput (i := p) (v := d3[(p) - 1]!) (.tmp 131) (.tmp 126) rfl N rfl rfl (by have := BND.out; omega) ?_
                          clear N
                          intro w9 N hb9
                          replace HB := Lib.hid (HB.out.trans hb9.out)
                          clear hb9
                          refine hK _ _ trivial ?_
                          clear hK K
                          try simp only [Act.put, lqA, lqB, lqC, lqD, lqE, lqF]
                          refine hm_run 16 132 (.pointer (some ⟨g, 0 + ((p) - 1) * 1, none⟩)) rfl rfl (by kernel_rfl) (by kernel_rfl) (by kernel_rfl) (fun _ _ _ h => h) rfl (fun W _ => exec_ix rfl (run_ix (k := 1) (j := (p) - 1) Tryd.underlying54 (by kernel_rfl) (by have := BND.out; omega) rfl W)) trivial ?_
                          try simp only [Act.put, lqA, lqB, lqC, lqD, lqE, lqF]
                          refine hm_one (i := 17) (by kernel_rfl) ?_
                          refine hm_step 17 rfl (by kernel_rfl) fun K hK => ?_
                          try simp only [Act.put, lqA, lqB, lqC, lqD, lqE, lqF]
                          refine mo_vput (i := (p) - 1) (v := d3[p]!) (.tmp 132) (.tmp 130) rfl N rfl rfl (by have := BND.out; omega) ?_
                          clear N
                          intro w9 N hb9
                          replace HB := Lib.hid (HB.out.trans hb9.out)
                          clear hb9
                          refine hK _ _ trivial ?_
                          clear hK K
                          try simp only [Act.put, lqA, lqB, lqC, lqD, lqE, lqF]
                          refine wpAnyH_done (by kernel_rfl) ?_ _
                          go_wp2_with ((with_reducible refine wpList_at 105 rfl ?_); refine wpList_kn rfl (.int .i64 ((p + 1 : Nat) : Int)) (by exact exec_add rfl rfl rfl (by have := BND.out; rw [IntKind.wrap_i64]; omega)) ?_)
                          go_roundg (b - (p + 1))
                          case measure => have := BND.out; have := KP.out; omega
                          case rel => exact ⟨p + 1, ((d3.setIfInBounds (p) d3[(p) - 1]!).setIfInBounds ((p) - 1) d3[p]!), rfl, by have := BND.out; omega, by have := BND.out; omega, rfl, N, SHX, HB⟩
                        · refine hm_step 13 rfl (by kernel_rfl) fun K hK => ?_
                          try simp only [Act.put, lqA, lqB, lqC, lqD, lqE, lqF]
                          refine mo_known (.int .u64 ((d3[p]! : Nat) : Int)) _ (exec_load rfl (run_load_one Tryd.underlying59 rfl (cell_dn N (by have := BND.out; omega)))) ?_
                          refine hK _ _ trivial ?_
                          clear hK K
                          try simp only [Act.put, lqA, lqB, lqC, lqD, lqE, lqF]
                          refine hm_one (i := 9) (by kernel_rfl) ?_
                          refine hm_step 9 rfl (by kernel_rfl) fun K hK => ?_
                          try simp only [Act.put, lqA, lqB, lqC, lqD, lqE, lqF]
                          refine mo_known (.int .u64 ((d3[(p) - 1]! : Nat) : Int)) _ (exec_load rfl (run_load_one Tryd.underlying59 rfl (cell_dn N (by have := BND.out; omega)))) ?_
                          refine hK _ _ trivial ?_
                          clear hK K
                          try simp only [Act.put, lqA, lqB, lqC, lqD, lqE, lqF]
                          refine hm_run 14 131 (.pointer (some ⟨g, 0 + (p) * 1, none⟩)) rfl rfl (by kernel_rfl) (by kernel_rfl) (by kernel_rfl) (fun _ _ _ h => h) rfl (fun W _ => exec_ix rfl (run_ix (k := 1) (j := p) Tryd.underlying54 (by kernel_rfl) (by have := BND.out; omega) rfl W)) trivial ?_
                          try simp only [Act.put, lqA, lqB, lqC, lqD, lqE, lqF]
                          refine hm_one (i := 15) (by kernel_rfl) ?_
                          refine hm_step 15 rfl (by kernel_rfl) fun K hK => ?_
                          try simp only [Act.put, lqA, lqB, lqC, lqD, lqE, lqF]
                          refine mo_vput (i := p) (v := d3[(p) - 1]!) (.tmp 131) (.tmp 126) rfl N rfl rfl (by have := BND.out; omega) ?_
                          clear N
                          intro w9 N hb9
                          replace HB := Lib.hid (HB.out.trans hb9.out)
                          clear hb9
                          refine hK _ _ trivial ?_
                          clear hK K
                          try simp only [Act.put, lqA, lqB, lqC, lqD, lqE, lqF]
                          refine hm_run 16 132 (.pointer (some ⟨g, 0 + ((p) - 1) * 1, none⟩)) rfl rfl (by kernel_rfl) (by kernel_rfl) (by kernel_rfl) (fun _ _ _ h => h) rfl (fun W _ => exec_ix rfl (run_ix (k := 1) (j := (p) - 1) Tryd.underlying54 (by kernel_rfl) (by have := BND.out; omega) rfl W)) trivial ?_
                          try simp only [Act.put, lqA, lqB, lqC, lqD, lqE, lqF]
                          refine hm_one (i := 17) (by kernel_rfl) ?_
                          refine hm_step 17 rfl (by kernel_rfl) fun K hK => ?_
                          try simp only [Act.put, lqA, lqB, lqC, lqD, lqE, lqF]
                          refine mo_vput (i := (p) - 1) (v := d3[p]!) (.tmp 132) (.tmp 130) rfl N rfl rfl (by have := BND.out; omega) ?_
                          clear N
                          intro w9 N hb9
                          replace HB := Lib.hid (HB.out.trans hb9.out)
                          clear hb9
                          refine hK _ _ trivial ?_
                          clear hK K
                          try simp only [Act.put, lqA, lqB, lqC, lqD, lqE, lqF]
                          refine wpAnyH_done (by kernel_rfl) ?_ _
                          go_wp2_with ((with_reducible refine wpList_at 105 rfl ?_); refine wpList_kn rfl (.int .i64 ((p + 1 : Nat) : Int)) (by exact exec_add rfl rfl rfl (by have := BND.out; rw [IntKind.wrap_i64]; omega)) ?_)
                          go_roundg (b - (p + 1))
                          case measure => have := BND.out; have := KP.out; omega
                          case rel => exact ⟨p + 1, ((d3.setIfInBounds (p) d3[(p) - 1]!).setIfInBounds ((p) - 1) d3[p]!), rfl, by have := BND.out; omega, by have := BND.out; omega, rfl, N, SHX, HB⟩
                      · have LQ := Lib.hid (decide_eq_false hl)
                        have RE := Lib.hid (show d3 = D5 by have h := SH.out; rw [shu_pos _ hp, if_pos (by simp only [ltN]; rw [LQ.out]; rfl)] at h; exact h)
                        clear SH hp hl
                        go_upto_region 22 with ((with_reducible refine wpList_at 103 rfl ?_); refine wpList_kn rfl (.bool true) (by exact exec_lssi rfl rfl rfl GE.out) ?_)
                        refine wp_region_T (Φ := fun X => (NRow B X g n c d3 ∧ d3.size = n) ∧ Below B w X) (S := fun X => (NRow B X g n c d3 ∧ d3.size = n) ∧ Below B w X) (Lib.hid ⟨N.out, HB.out⟩) (fun X h => ⟨⟨h.1.1.below ((Below.refl _ _).drew), h.1.2⟩, h.2.drew⟩) (fun X h => h) (by kernel_rfl) ?_
                        clear N HB
                        intro wx TT S0
                        have N := Lib.hid TT.out.1
                        have HB := Lib.hid TT.out.2
                        clear TT
                        refine hm_run 0 106 (.slice (some ⟨g, 0, none⟩) n c) rfl rfl (by kernel_rfl) (by kernel_rfl) (by kernel_rfl) (fun _ _ _ h => h) rfl (fun _ _ => rfl) S0.out ?_
                        try simp only [Act.put, lqA, lqB, lqC, lqD, lqE, lqF]
                        refine hm_run 1 107 (.int .i64 ((p : Nat) : Int)) rfl rfl (by kernel_rfl) (by kernel_rfl) (by kernel_rfl) (fun _ _ _ h => h) rfl (fun _ _ => rfl) S0.out ?_
                        try simp only [Act.put, lqA, lqB, lqC, lqD, lqE, lqF]
                        refine hm_run 2 108 (.pointer (some ⟨g, 0 + (p) * 1, none⟩)) rfl rfl (by kernel_rfl) (by kernel_rfl) (by kernel_rfl) (fun _ _ _ h => h) rfl (fun W _ => exec_ix rfl (run_ix (k := 1) (j := p) Tryd.underlying54 (by kernel_rfl) (by have := BND.out; omega) rfl W)) S0.out ?_
                        try simp only [Act.put, lqA, lqB, lqC, lqD, lqE, lqF]
                        refine hm_run 3 109 (.int .u64 ((d3[p]! : Nat) : Int)) rfl rfl (by kernel_rfl) (by kernel_rfl) (by kernel_rfl) (fun _ _ _ h => h) rfl (fun W hW => exec_load rfl (run_load_one Tryd.underlying59 rfl (cell_dn (Lib.hid hW.1) (by have := BND.out; omega)))) S0.out ?_
                        try simp only [Act.put, lqA, lqB, lqC, lqD, lqE, lqF]
                        refine hm_run 4 110 (.slice (some ⟨g, 0, none⟩) n c) rfl rfl (by kernel_rfl) (by kernel_rfl) (by kernel_rfl) (fun _ _ _ h => h) rfl (fun _ _ => rfl) S0.out ?_
                        try simp only [Act.put, lqA, lqB, lqC, lqD, lqE, lqF]
                        refine hm_run 5 111 (.int .i64 ((p : Nat) : Int)) rfl rfl (by kernel_rfl) (by kernel_rfl) (by kernel_rfl) (fun _ _ _ h => h) rfl (fun _ _ => rfl) S0.out ?_
                        try simp only [Act.put, lqA, lqB, lqC, lqD, lqE, lqF]
                        refine hm_run 6 112 (.int .i64 (((p) - 1 : Nat) : Int)) rfl rfl (by kernel_rfl) (by kernel_rfl) (by kernel_rfl) (fun _ _ _ h => h) rfl (fun _ _ => exec_sub rfl rfl rfl (by have := BND.out; rw [IntKind.wrap_i64]; omega)) S0.out ?_
                        try simp only [Act.put, lqA, lqB, lqC, lqD, lqE, lqF]
                        refine hm_run 7 113 (.pointer (some ⟨g, 0 + ((p) - 1) * 1, none⟩)) rfl rfl (by kernel_rfl) (by kernel_rfl) (by kernel_rfl) (fun _ _ _ h => h) rfl (fun W _ => exec_ix rfl (run_ix (k := 1) (j := (p) - 1) Tryd.underlying54 (by kernel_rfl) (by have := BND.out; omega) rfl W)) S0.out ?_
                        try simp only [Act.put, lqA, lqB, lqC, lqD, lqE, lqF]
                        refine hm_run 8 114 (.int .u64 ((d3[(p) - 1]! : Nat) : Int)) rfl rfl (by kernel_rfl) (by kernel_rfl) (by kernel_rfl) (fun _ _ _ h => h) rfl (fun W hW => exec_load rfl (run_load_one Tryd.underlying59 rfl (cell_dn (Lib.hid hW.1) (by have := BND.out; omega)))) S0.out ?_
                        try simp only [Act.put, lqA, lqB, lqC, lqD, lqE, lqF]
                        refine hm_one (i := 9) (by kernel_rfl) ?_
                        refine hm_step 9 rfl (by kernel_rfl) fun K hK => ?_
                        try simp only [Act.put, lqA, lqB, lqC, lqD, lqE, lqF]
                        go_simp
                        go_at_call 58
                        refine (less_any _ _ _).mono ?_
                        rintro e w7 ⟨rfl, rfl⟩
                        rw [LQ.out]
                        refine hK _ _ S0.out ?_
                        clear hK K
                        try simp only [Act.put, lqA, lqB, lqC, lqD, lqE, lqF]
                        refine hm_run 10 116 (.bool true) rfl rfl (by kernel_rfl) (by kernel_rfl) (by kernel_rfl) (fun _ _ _ h => h) rfl (fun _ _ => rfl) S0.out ?_
                        try simp only [Act.put, lqA, lqB, lqC, lqD, lqE, lqF]
                        refine wpAnyH_done (by kernel_rfl) ?_ _
                        go_wp2_with (first | ((with_reducible refine wpList_at 16 rfl ?_); refine wpList_kn rfl (.int .i64 ((st + 1 : Nat) : Int)) (by exact exec_add rfl rfl rfl (by have := BND.out; rw [IntKind.wrap_i64]; omega)) ?_) | ((with_reducible refine wpList_at 103 rfl ?_); refine wpList_kn rfl (.bool false) (by exact exec_lssi rfl rfl rfl GE.out) ?_))
                        go_roundg kk
                        case measure => have := KI.out; omega
                        case rel => exact ⟨st + 1, I2, _, by have := KI.out; omega, by have := BND.out; omega, by have := BND.out; omega, rfl, rfl, (by rw [← RE.out]; exact N), INX, HB⟩
                    · have GE := Lib.hid (show decide ((p : Int) < (b : Int)) = false from decide_eq_false (by omega))
                      have RE := Lib.hid (show d3 = D5 by have h := SH.out; rw [shu_off _ hp] at h; exact h)
                      clear SH hp
                      go_wp2_with (first | ((with_reducible refine wpList_at 16 rfl ?_); refine wpList_kn rfl (.int .i64 ((st + 1 : Nat) : Int)) (by exact exec_add rfl rfl rfl (by have := BND.out; rw [IntKind.wrap_i64]; omega)) ?_) | ((with_reducible refine wpList_at 103 rfl ?_); refine wpList_kn rfl (.bool false) (by exact exec_lssi rfl rfl rfl GE.out) ?_))
                      go_roundg kk
                      case measure => have := KI.out; omega
                      case rel => exact ⟨st + 1, I2, _, by have := KI.out; omega, by have := BND.out; omega, by have := BND.out; omega, rfl, rfl, (by rw [← RE.out]; exact N), INX, HB⟩
                · have HC2 := Lib.hid (show decide ((2 : Int) ≤ ((b - I2 : Nat) : Int)) = false from decide_eq_false (by omega))
                  have RE := Lib.hid (show D4 = D5 by rw [HD5.out, if_neg hc2])
                  clear hc2 HD5
                  go_wp2_with (first | ((with_reducible refine wpList_at 97 rfl ?_); refine wpList_kn rfl (.int .i64 ((b - I2 : Nat) : Int)) (by exact exec_sub rfl rfl rfl (by have := BND.out; rw [IntKind.wrap_i64]; omega)) ?_) | ((with_reducible refine wpList_at 98 rfl ?_); refine wpList_kn rfl (.bool false) (by exact exec_geqN rfl rfl rfl HC2.out) ?_) | ((with_reducible refine wpList_at 16 rfl ?_); refine wpList_kn rfl (.int .i64 ((st + 1 : Nat) : Int)) (by exact exec_add rfl rfl rfl (by have := BND.out; rw [IntKind.wrap_i64]; omega)) ?_))
                  go_roundg kk
                  case measure => have := KI.out; omega
                  case rel => exact ⟨st + 1, I2, _, by have := KI.out; omega, by have := BND.out; omega, by have := BND.out; omega, rfl, rfl, (by rw [← RE.out]; exact N), INX, HB⟩
end Go.Proofs.YtoopcmcmjaikhaaDoor
