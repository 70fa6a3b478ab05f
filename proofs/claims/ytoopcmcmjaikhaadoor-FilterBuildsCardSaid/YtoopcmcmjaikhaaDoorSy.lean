/- The sort of uint64: partitionEqual. -/
import Derived.Test.YtoopcmcmjaikhaaDoorSx
set_option linter.unusedSimpArgs false
set_option linter.unusedVariables false
set_option maxRecDepth 100000
namespace Go.Proofs.YtoopcmcmjaikhaaDoor
open Go.RowKit Go.Lib

theorem up_go {p : Nat → Bool} {d : Array Nat} {j i : Nat} (h : i ≤ j) (hp : p d[i]! = true) : Go.Sort.scanUp p d j i = Go.Sort.scanUp p d j (i + 1) := by
  conv => lhs; rw [Go.Sort.scanUp]
  exact if_pos (by simp [h, hp])
theorem up_off {p : Nat → Bool} {d : Array Nat} {j i : Nat} (h : ¬ i ≤ j) : Go.Sort.scanUp p d j i = i := by
  rw [Go.Sort.scanUp]
  exact if_neg (by simp [h])
theorem up_stop {p : Nat → Bool} {d : Array Nat} {j i : Nat} (hp : p d[i]! = false) : Go.Sort.scanUp p d j i = i := by
  rw [Go.Sort.scanUp]
  exact if_neg (by simp [hp])
theorem dn_go {p : Nat → Bool} {d : Array Nat} {j i : Nat} (h0 : 0 < j) (h : i ≤ j) (hp : p d[j]! = true) : Go.Sort.scanDown p d i j = Go.Sort.scanDown p d i (j - 1) := by
  obtain ⟨k, rfl⟩ : ∃ k, j = k + 1 := ⟨j - 1, by omega⟩
  conv => lhs; rw [Go.Sort.scanDown]
  exact if_pos (by simp [h, hp])
theorem dn_off {p : Nat → Bool} {d : Array Nat} {j i : Nat} (h : ¬ i ≤ j) : Go.Sort.scanDown p d i j = j := by
  cases j with
  | zero => rw [Go.Sort.scanDown]
  | succ k => rw [Go.Sort.scanDown]; exact if_neg (by simp; omega)
theorem dn_stop {p : Nat → Bool} {d : Array Nat} {j i : Nat} (hp : p d[j]! = false) : Go.Sort.scanDown p d i j = j := by
  cases j with
  | zero => rw [Go.Sort.scanDown]
  | succ k => rw [Go.Sort.scanDown]; exact if_neg (by simp [hp])
set_option maxHeartbeats 64000000 in
theorem peq64_any {w : World} {B g n c a b pv : Nat} {d : Array Nat} (N : Hid (NRow B w g n c d ∧ d.size = n)) (hab : a < b) (hbn : b ≤ n) (hpv : pv < n) (hn : n ≤ 20000) : Calls Tryd.prog 105 #[.slice (some ⟨g, 0, none⟩) n c, .int .i64 (a : Int), .int .i64 (b : Int), .int .i64 (pv : Int)] w fun e w' => e = .returned (.int .i64 (((Go.Sort.partitionEqual ltN d a b pv).1 : Nat) : Int)) ∧ (NRow B w' g n c (Go.Sort.partitionEqual ltN d a b pv).2 ∧ (Go.Sort.partitionEqual ltN d a b pv).2.size = n) ∧ Below B w w' := by
  obtain ⟨R, hR⟩ : ∃ R, R = Go.Sort.partitionEqual ltN d a b pv := ⟨_, rfl⟩
  have OUT0 := Lib.hid (show Go.Sort.partEqLoop ltN a (a + 1) (b - 1) (Go.Sort.swp d a pv) = R from hR.symm)
  have BI := Lib.hid (show a < b ∧ b ≤ n ∧ pv < n ∧ n ≤ 20000 from ⟨hab, hbn, hpv, hn⟩)
  have HB := Lib.hid (Below.refl B w)
  rw [← hR]
  clear hab hbn hpv hn hR
  go_enter Tryd.func105, Tryd.ntmps105
  go_upto_region 1 with fail
  try simp only [Act.put, lqA, lqB, lqC, lqD, lqE, lqF]
  go_cut [8] (fun s8 wx => s8 = .int .i64 0 ∧ Hid (NRow B wx g n c (Go.Sort.swp d a pv) ∧ (Go.Sort.swp d a pv).size = n) ∧ Hid (Below B w wx))
  case first =>
    refine wp_region_T (Φ := fun X => (NRow B X g n c d ∧ d.size = n) ∧ Below B w X) (S := fun _ => True) (Lib.hid ⟨N.out, HB.out⟩) (fun X h => ⟨⟨h.1.1.below ((Below.refl _ _).drew), h.1.2⟩, h.2.drew⟩) (fun _ _ => trivial) (by kernel_rfl) ?_
    clear N HB
    intro wx TT S0
    have N := Lib.hid TT.out.1
    have HB := Lib.hid TT.out.2
    clear TT
    refine hm_run 0 11 (.slice (some ⟨g, 0, none⟩) n c) rfl rfl (by kernel_rfl) (by kernel_rfl) (by kernel_rfl) (fun _ _ _ h => h) rfl (fun _ _ => rfl) trivial ?_
    try simp only [Act.put, lqA, lqB, lqC, lqD, lqE, lqF]
    refine hm_run 1 12 (.int .i64 ((a : Nat) : Int)) rfl rfl (by kernel_rfl) (by kernel_rfl) (by kernel_rfl) (fun _ _ _ h => h) rfl (fun _ _ => rfl) trivial ?_
    try simp only [Act.put, lqA, lqB, lqC, lqD, lqE, lqF]
    refine hm_run 2 13 (.slice (some ⟨g, 0, none⟩) n c) rfl rfl (by kernel_rfl) (by kernel_rfl) (by kernel_rfl) (fun _ _ _ h => h) rfl (fun _ _ => rfl) trivial ?_
    try simp only [Act.put, lqA, lqB, lqC, lqD, lqE, lqF]
    refine hm_run 3 14 (.int .i64 ((pv : Nat) : Int)) rfl rfl (by kernel_rfl) (by kernel_rfl) (by kernel_rfl) (fun _ _ _ h => h) rfl (fun _ _ => rfl) trivial ?_
    try simp only [Act.put, lqA, lqB, lqC, lqD, lqE, lqF]
    refine hm_run 4 15 (.slice (some ⟨g, 0, none⟩) n c) rfl rfl (by kernel_rfl) (by kernel_rfl) (by kernel_rfl) (fun _ _ _ h => h) rfl (fun _ _ => rfl) trivial ?_
    try simp only [Act.put, lqA, lqB, lqC, lqD, lqE, lqF]
    refine hm_run 5 16 (.int .i64 ((pv : Nat) : Int)) rfl rfl (by kernel_rfl) (by kernel_rfl) (by kernel_rfl) (fun _ _ _ h => h) rfl (fun _ _ => rfl) trivial ?_
    try simp only [Act.put, lqA, lqB, lqC, lqD, lqE, lqF]
    refine hm_run 6 17 (.pointer (some ⟨g, 0 + (pv) * 1, none⟩)) rfl rfl (by kernel_rfl) (by kernel_rfl) (by kernel_rfl) (fun _ _ _ h => h) rfl (fun W _ => exec_ix rfl (run_ix (k := 1) (j := pv) Tryd.underlying54 (by kernel_rfl) (by have := BI.out; omega) rfl W)) trivial ?_
    try simp only [Act.put, lqA, lqB, lqC, lqD, lqE, lqF]
    refine hm_run 8 19 (.slice (some ⟨g, 0, none⟩) n c) rfl rfl (by kernel_rfl) (by kernel_rfl) (by kernel_rfl) (fun _ _ _ h => h) rfl (fun _ _ => rfl) trivial ?_
    try simp only [Act.put, lqA, lqB, lqC, lqD, lqE, lqF]
    refine hm_run 9 20 (.int .i64 ((a : Nat) : Int)) rfl rfl (by kernel_rfl) (by kernel_rfl) (by kernel_rfl) (fun _ _ _ h => h) rfl (fun _ _ => rfl) trivial ?_
    try simp only [Act.put, lqA, lqB, lqC, lqD, lqE, lqF]
    refine hm_run 10 21 (.pointer (some ⟨g, 0 + (a) * 1, none⟩)) rfl rfl (by kernel_rfl) (by kernel_rfl) (by kernel_rfl) (fun _ _ _ h => h) rfl (fun W _ => exec_ix rfl (run_ix (k := 1) (j := a) Tryd.underlying54 (by kernel_rfl) (by have := BI.out; omega) rfl W)) trivial ?_
    try simp only [Act.put, lqA, lqB, lqC, lqD, lqE, lqF]
    refine hm_two (i := 7) (j := 11) (by kernel_rfl) ?_ ?_
    · refine hm_step 7 rfl (by kernel_rfl) fun K hK => ?_
      try simp only [Act.put, lqA, lqB, lqC, lqD, lqE, lqF]
      refine mo_known (.int .u64 ((d[pv]! : Nat) : Int)) _ (exec_load rfl (run_load_one Tryd.underlying59 rfl (cell_dn N (by have := BI.out; omega)))) ?_
      refine hK _ _ trivial ?_
      clear hK K
      try simp only [Act.put, lqA, lqB, lqC, lqD, lqE, lqF]
      refine hm_one (i := 11) (by kernel_rfl) ?_
      refine hm_step 11 rfl (by kernel_rfl) fun K hK => ?_
      try simp only [Act.put, lqA, lqB, lqC, lqD, lqE, lqF]
      refine mo_known (.int .u64 ((d[a]! : Nat) : Int)) _ (exec_load rfl (run_load_one Tryd.underlying59 rfl (cell_dn N (by have := BI.out; omega)))) ?_
      refine hK _ _ trivial ?_
      clear hK K
      try simp only [Act.put, lqA, lqB, lqC, lqD, lqE, lqF]
      refine hm_run 12 23 (.pointer (some ⟨g, 0 + (a) * 1, none⟩)) rfl rfl (by kernel_rfl) (by kernel_rfl) (by kernel_rfl) (fun _ _ _ h => h) rfl (fun W _ => exec_ix rfl (run_ix (k := 1) (j := a) Tryd.underlying54 (by kernel_rfl) (by have := BI.out; omega) rfl W)) trivial ?_
      try simp only [Act.put, lqA, lqB, lqC, lqD, lqE, lqF]
      refine hm_one (i := 13) (by kernel_rfl) ?_
      refine hm_step 13 rfl (by kernel_rfl) fun K hK => ?_
      try simp only [Act.put, lqA, lqB, lqC, lqD, lqE, lqF]
      refine mo_vput (i := a) (v := d[pv]!) (.tmp 23) (.tmp 18) rfl N rfl rfl (by have := BI.out; omega) ?_
      clear N
      intro w9 N hb9
      replace HB := Lib.hid (HB.out.trans hb9.out)
      clear hb9
      refine hK _ _ trivial ?_
      clear hK K
      try simp only [Act.put, lqA, lqB, lqC, lqD, lqE, lqF]
      refine hm_run 14 24 (.pointer (some ⟨g, 0 + (pv) * 1, none⟩)) rfl rfl (by kernel_rfl) (by kernel_rfl) (by kernel_rfl) (fun _ _ _ h => h) rfl (fun W _ => exec_ix rfl (run_ix (k := 1) (j := pv) Tryd.underlying54 (by kernel_rfl) (by have := BI.out; omega) rfl W)) trivial ?_
      try simp only [Act.put, lqA, lqB, lqC, lqD, lqE, lqF]
      refine hm_one (i := 15) (by kernel_rfl) ?_
      refine hm_step 15 rfl (by kernel_rfl) fun K hK => ?_
      try simp only [Act.put, lqA, lqB, lqC, lqD, lqE, lqF]
      refine mo_vput (i := pv) (v := d[a]!) (.tmp 24) (.tmp 22) rfl N rfl rfl (by have := BI.out; omega) ?_
      clear N
      intro w9 N hb9
      replace HB := Lib.hid (HB.out.trans hb9.out)
      clear hb9
      refine hK _ _ trivial ?_
      clear hK K
      try simp only [Act.put, lqA, lqB, lqC, lqD, lqE, lqF]
      refine wpAnyH_done (by kernel_rfl) ?_ _
      go_wp2_with fail
      go_meet
      exact ⟨rfl, N, HB⟩
    · refine hm_step 11 rfl (by kernel_rfl) fun K hK => ?_
      try simp only [Act.put, lqA, lqB, lqC, lqD, lqE, lqF]
      refine mo_known (.int .u64 ((d[a]! : Nat) : Int)) _ (exec_load rfl (run_load_one Tryd.underlying59 rfl (cell_dn N (by have := BI.out; omega)))) ?_
      refine hK _ _ trivial ?_
      clear hK K
      try simp only [Act.put, lqA, lqB, lqC, lqD, lqE, lqF]
      refine hm_one (i := 7) (by kernel_rfl) ?_
      refine hm_step 7 rfl (by kernel_rfl) fun K hK => ?_
      try simp only [Act.put, lqA, lqB, lqC, lqD, lqE, lqF]
      refine mo_known (.int .u64 ((d[pv]! : Nat) : Int)) _ (exec_load rfl (run_load_one Tryd.underlying59 rfl (cell_dn N (by have := BI.out; omega)))) ?_
      refine hK _ _ trivial ?_
      clear hK K
      try simp only [Act.put, lqA, lqB, lqC, lqD, lqE, lqF]
      refine hm_run 12 23 (.pointer (some ⟨g, 0 + (a) * 1, none⟩)) rfl rfl (by kernel_rfl) (by kernel_rfl) (by kernel_rfl) (fun _ _ _ h => h) rfl (fun W _ => exec_ix rfl (run_ix (k := 1) (j := a) Tryd.underlying54 (by kernel_rfl) (by have := BI.out; omega) rfl W)) trivial ?_
      try simp only [Act.put, lqA, lqB, lqC, lqD, lqE, lqF]
      refine hm_one (i := 13) (by kernel_rfl) ?_
      refine hm_step 13 rfl (by kernel_rfl) fun K hK => ?_
      try simp only [Act.put, lqA, lqB, lqC, lqD, lqE, lqF]
      refine mo_vput (i := a) (v := d[pv]!) (.tmp 23) (.tmp 18) rfl N rfl rfl (by have := BI.out; omega) ?_
      clear N
      intro w9 N hb9
      replace HB := Lib.hid (HB.out.trans hb9.out)
      clear hb9
      refine hK _ _ trivial ?_
      clear hK K
      try simp only [Act.put, lqA, lqB, lqC, lqD, lqE, lqF]
      refine hm_run 14 24 (.pointer (some ⟨g, 0 + (pv) * 1, none⟩)) rfl rfl (by kernel_rfl) (by kernel_rfl) (by kernel_rfl) (fun _ _ _ h => h) rfl (fun W _ => exec_ix rfl (run_ix (k := 1) (j := pv) Tryd.underlying54 (by kernel_rfl) (by have := BI.out; omega) rfl W)) trivial ?_
      try simp only [Act.put, lqA, lqB, lqC, lqD, lqE, lqF]
      refine hm_one (i := 15) (by kernel_rfl) ?_
      refine hm_step 15 rfl (by kernel_rfl) fun K hK => ?_
      try simp only [Act.put, lqA, lqB, lqC, lqD, lqE, lqF]
      refine mo_vput (i := pv) (v := d[a]!) (.tmp 24) (.tmp 22) rfl N rfl rfl (by have := BI.out; omega) ?_
      clear N
      intro w9 N hb9
      replace HB := Lib.hid (HB.out.trans hb9.out)
      clear hb9
      refine hK _ _ trivial ?_
      clear hK K
      try simp only [Act.put, lqA, lqB, lqC, lqD, lqE, lqF]
      refine wpAnyH_done (by kernel_rfl) ?_ _
      go_wp2_with fail
      go_meet
      exact ⟨rfl, N, HB⟩
  case rest =>
    obtain ⟨rfl, N, HB⟩ := hcut
    go_upto_region 3 with (first | ((with_reducible refine wpList_at 26 rfl ?_); refine wpList_kn rfl (.int .i64 ((a + 1 : Nat) : Int)) (by exact exec_add rfl rfl rfl (by have := BI.out; rw [IntKind.wrap_i64]; omega)) ?_) | ((with_reducible refine wpList_at 28 rfl ?_); refine wpList_kn rfl (.int .i64 ((b - 1 : Nat) : Int)) (by exact exec_sub rfl rfl rfl (by have := BI.out; rw [IntKind.wrap_i64]; omega)) ?_))
    go_loopg [9, 10] ((b - 1) + 1 - (a + 1)) (fun k s9 s10 wr => ∃ (i j : Nat) (d2 : Array Nat), j + 1 - i = k ∧ a < i ∧ i ≤ n + 1 ∧ j < b ∧ s9 = .int .i64 (i : Int) ∧ s10 = .int .i64 (j : Int) ∧ Hid (NRow B wr g n c d2 ∧ d2.size = n) ∧ Hid (Go.Sort.partEqLoop ltN a i j d2 = R) ∧ Hid (Below B w wr))
    case atStart => exact ⟨a + 1, b - 1, _, rfl, Nat.lt_succ_self _, by have := BI.out; omega, by have := BI.out; omega, rfl, rfl, N, OUT0, HB⟩
    case round =>
      clear N OUT0 HB
      obtain ⟨i, j, d2, hk, hai, hin, hjb, rfl, rfl, N, IN, HB⟩ := hrel
      obtain ⟨D, hD⟩ : ∃ D, D = wr := ⟨_, rfl⟩
      subst hD
      obtain ⟨I2, hI2⟩ : ∃ I2, I2 = Go.Sort.scanUp (fun x => !ltN d2[a]! x) d2 j i := ⟨_, rfl⟩
      obtain ⟨J2, hJ2⟩ : ∃ J2, J2 = Go.Sort.scanDown (fun x => ltN d2[a]! x) d2 I2 j := ⟨_, rfl⟩
      have OUT := Lib.hid (show (if I2 > J2 then (I2, d2) else Go.Sort.partEqLoop ltN a (I2 + 1) (J2 - 1) (Go.Sort.swp d2 I2 J2)) = R by have h := IN.out; rw [Go.Sort.partEqLoop_eq, ← hI2, ← hJ2] at h; exact h)
      have UP := Lib.hid hI2.symm
      have DN := Lib.hid hJ2.symm
      have KI := Lib.hid hk
      have B1 := Lib.hid (show a < i ∧ i ≤ n + 1 ∧ j < b ∧ a < b ∧ b ≤ n ∧ n ≤ 20000 by have := BI.out; omega)
      clear hI2 hJ2 IN hk hai hin hjb
      go_upto_region 3 with fail
      go_loopg [9] (j + 1 - i) (fun k s9 wr => ∃ q : Nat, j + 1 - q = k ∧ i ≤ q ∧ q ≤ n + 1 ∧ s9 = .int .i64 (q : Int) ∧ Hid (NRow B wr g n c d2 ∧ d2.size = n) ∧ Hid (Go.Sort.scanUp (fun x => !ltN d2[a]! x) d2 j q = I2) ∧ Hid (Below B w wr))
      case atStart => exact ⟨i, rfl, Nat.le_refl _, by have := B1.out; omega, rfl, N, UP, HB⟩
      case round =>
        clear N UP HB
        obtain ⟨q, hk, hiq, hqn, rfl, N, UP, HB⟩ := hrel
        obtain ⟨D2, hD2⟩ : ∃ D, D = wr := ⟨_, rfl⟩
        subst hD2
        have KQ := Lib.hid hk
        have BND := Lib.hid (show i ≤ q ∧ q ≤ n + 1 ∧ a < i ∧ j < b ∧ a < b ∧ b ≤ n ∧ n ≤ 20000 by have := B1.out; omega)
        clear hk hiq hqn
        by_cases hqj : q ≤ j
        · have LE := Lib.hid (show decide ((q : Int) ≤ (j : Int)) = true from decide_eq_true (by omega))
          replace BND := Lib.hid (And.intro hqj BND.out)
          by_cases hl : d2[a]! < d2[q]!
          · have LQ := Lib.hid (decide_eq_true hl)
            obtain rfl : q = I2 := by rw [← UP.out]; exact (up_stop (by simp only [ltN]; rw [LQ.out]; rfl)).symm
            clear UP hqj hl
            go_upto_region 3 with fail
            refine wp_region_T (Φ := fun X => (NRow B X g n c d2 ∧ d2.size = n) ∧ Below B w X) (S := fun X => (NRow B X g n c d2 ∧ d2.size = n) ∧ Below B w X) (Lib.hid ⟨N.out, HB.out⟩) (fun X h => ⟨⟨h.1.1.below ((Below.refl _ _).drew), h.1.2⟩, h.2.drew⟩) (fun X h => h) (by kernel_rfl) ?_
            clear N HB
            intro wx TT S0
            have N := Lib.hid TT.out.1
            have HB := Lib.hid TT.out.2
            clear TT
            refine hm_run 0 29 (.int .i64 ((q : Nat) : Int)) rfl rfl (by kernel_rfl) (by kernel_rfl) (by kernel_rfl) (fun _ _ _ h => h) rfl (fun _ _ => rfl) S0.out ?_
            try simp only [Act.put, lqA, lqB, lqC, lqD, lqE, lqF]
            refine hm_run 1 30 (.int .i64 ((j : Nat) : Int)) rfl rfl (by kernel_rfl) (by kernel_rfl) (by kernel_rfl) (fun _ _ _ h => h) rfl (fun _ _ => rfl) S0.out ?_
            try simp only [Act.put, lqA, lqB, lqC, lqD, lqE, lqF]
            refine hm_run 2 31 (.bool true) rfl rfl (by kernel_rfl) (by kernel_rfl) (by kernel_rfl) (fun _ _ _ h => h) rfl (fun _ _ => exec_leqN rfl rfl rfl LE.out) S0.out ?_
            try simp only [Act.put, lqA, lqB, lqC, lqD, lqE, lqF]
            refine hm_run 3 32 (.bool true) rfl rfl (by kernel_rfl) (by kernel_rfl) (by kernel_rfl) (fun _ _ _ h => h) rfl (fun _ _ => rfl) S0.out ?_
            try simp only [Act.put, lqA, lqB, lqC, lqD, lqE, lqF]
            refine hm_run 4 33 (.slice (some ⟨g, 0, none⟩) n c) rfl rfl (by kernel_rfl) (by kernel_rfl) (by kernel_rfl) (fun _ _ _ h => h) rfl (fun _ _ => rfl) S0.out ?_
            try simp only [Act.put, lqA, lqB, lqC, lqD, lqE, lqF]
            refine hm_run 5 34 (.int .i64 ((a : Nat) : Int)) rfl rfl (by kernel_rfl) (by kernel_rfl) (by kernel_rfl) (fun _ _ _ h => h) rfl (fun _ _ => rfl) S0.out ?_
            try simp only [Act.put, lqA, lqB, lqC, lqD, lqE, lqF]
            refine hm_run 6 35 (.pointer (some ⟨g, 0 + (a) * 1, none⟩)) rfl rfl (by kernel_rfl) (by kernel_rfl) (by kernel_rfl) (fun _ _ _ h => h) rfl (fun W _ => exec_ix rfl (run_ix (k := 1) (j := a) Tryd.underlying54 (by kernel_rfl) (by have := BND.out; omega) rfl W)) S0.out ?_
            try simp only [Act.put, lqA, lqB, lqC, lqD, lqE, lqF]
            refine hm_run 7 36 (.int .u64 ((d2[a]! : Nat) : Int)) rfl rfl (by kernel_rfl) (by kernel_rfl) (by kernel_rfl) (fun _ _ _ h => h) rfl (fun W hW => exec_load rfl (run_load_one Tryd.underlying59 rfl (cell_dn (Lib.hid hW.1) (by have := BND.out; omega)))) S0.out ?_
            try simp only [Act.put, lqA, lqB, lqC, lqD, lqE, lqF]
            refine hm_run 8 37 (.slice (some ⟨g, 0, none⟩) n c) rfl rfl (by kernel_rfl) (by kernel_rfl) (by kernel_rfl) (fun _ _ _ h => h) rfl (fun _ _ => rfl) S0.out ?_
            try simp only [Act.put, lqA, lqB, lqC, lqD, lqE, lqF]
            refine hm_run 9 38 (.int .i64 ((q : Nat) : Int)) rfl rfl (by kernel_rfl) (by kernel_rfl) (by kernel_rfl) (fun _ _ _ h => h) rfl (fun _ _ => rfl) S0.out ?_
            try simp only [Act.put, lqA, lqB, lqC, lqD, lqE, lqF]
            refine hm_run 10 39 (.pointer (some ⟨g, 0 + (q) * 1, none⟩)) rfl rfl (by kernel_rfl) (by kernel_rfl) (by kernel_rfl) (fun _ _ _ h => h) rfl (fun W _ => exec_ix rfl (run_ix (k := 1) (j := q) Tryd.underlying54 (by kernel_rfl) (by have := BND.out; omega) rfl W)) S0.out ?_
            try simp only [Act.put, lqA, lqB, lqC, lqD, lqE, lqF]
            refine hm_run 11 40 (.int .u64 ((d2[q]! : Nat) : Int)) rfl rfl (by kernel_rfl) (by kernel_rfl) (by kernel_rfl) (fun _ _ _ h => h) rfl (fun W hW => exec_load rfl (run_load_one Tryd.underlying59 rfl (cell_dn (Lib.hid hW.1) (by have := BND.out; omega)))) S0.out ?_
            try simp only [Act.put, lqA, lqB, lqC, lqD, lqE, lqF]
            refine hm_one (i := 12) (by kernel_rfl) ?_
            refine hm_step 12 rfl (by kernel_rfl) fun K hK => ?_
            try simp only [Act.put, lqA, lqB, lqC, lqD, lqE, lqF]
            go_simp
            go_at_call 58
            refine (less_any _ _ _).mono ?_
            rintro e w7 ⟨rfl, rfl⟩
            rw [LQ.out]
            refine hK _ _ S0.out ?_
            clear hK K
            try simp only [Act.put, lqA, lqB, lqC, lqD, lqE, lqF]
            refine hm_run 13 42 (.bool false) rfl rfl (by kernel_rfl) (by kernel_rfl) (by kernel_rfl) (fun _ _ _ h => h) rfl (fun _ _ => rfl) S0.out ?_
            try simp only [Act.put, lqA, lqB, lqC, lqD, lqE, lqF]
            refine hm_run 14 43 (.bool false) rfl rfl (by kernel_rfl) (by kernel_rfl) (by kernel_rfl) (fun _ _ _ h => h) rfl (fun _ _ => rfl) S0.out ?_
            try simp only [Act.put, lqA, lqB, lqC, lqD, lqE, lqF]
            refine wpAnyH_done (by kernel_rfl) ?_ _
            go_upto_region 5 with fail
            go_loopg [10] j (fun k s10 wr => k ≤ j ∧ s10 = .int .i64 (k : Int) ∧ Hid (NRow B wr g n c d2 ∧ d2.size = n) ∧ Hid (Go.Sort.scanDown (fun x => ltN d2[a]! x) d2 q k = J2) ∧ Hid (Below B w wr))
            case atStart => exact ⟨Nat.le_refl _, rfl, N, DN, HB⟩
            case round =>
              clear N DN HB
              obtain ⟨hpj, rfl, N, DN, HB⟩ := hrel
              obtain ⟨p, rfl⟩ : ∃ p : Nat, p = gk := ⟨_, rfl⟩
              have BND2 := Lib.hid (And.intro hpj BND.out)
              clear hpj
              by_cases hqp : q ≤ p
              · have LE2 := Lib.hid (show decide ((q : Int) ≤ (p : Int)) = true from decide_eq_true (by omega))
                replace BND2 := Lib.hid (And.intro hqp BND2.out)
                by_cases hl2 : d2[a]! < d2[p]!
                · have LQ2 := Lib.hid (decide_eq_true hl2)
                  have DNX := Lib.hid (show Go.Sort.scanDown (fun x => ltN d2[a]! x) d2 q (p - 1) = J2 by rw [← DN.out]; exact (dn_go (by have := BND2.out; omega) hqp (by simp only [ltN]; exact LQ2.out)).symm)
                  clear DN hqp hl2
                  go_upto_region 5 with fail
                  refine wp_region_T (Φ := fun X => (NRow B X g n c d2 ∧ d2.size = n) ∧ Below B w X) (S := fun X => (NRow B X g n c d2 ∧ d2.size = n) ∧ Below B w X) (Lib.hid ⟨N.out, HB.out⟩) (fun X h => ⟨⟨h.1.1.below ((Below.refl _ _).drew), h.1.2⟩, h.2.drew⟩) (fun X h => h) (by kernel_rfl) ?_
                  clear N HB
                  intro wx TT S0
                  have N := Lib.hid TT.out.1
                  have HB := Lib.hid TT.out.2
                  clear TT
                  refine hm_run 0 46 (.int .i64 ((q : Nat) : Int)) rfl rfl (by kernel_rfl) (by kernel_rfl) (by kernel_rfl) (fun _ _ _ h => h) rfl (fun _ _ => rfl) S0.out ?_
                  try simp only [Act.put, lqA, lqB, lqC, lqD, lqE, lqF]
                  refine hm_run 1 47 (.int .i64 ((p : Nat) : Int)) rfl rfl (by kernel_rfl) (by kernel_rfl) (by kernel_rfl) (fun _ _ _ h => h) rfl (fun _ _ => rfl) S0.out ?_
                  try simp only [Act.put, lqA, lqB, lqC, lqD, lqE, lqF]
                  refine hm_run 2 48 (.bool true) rfl rfl (by kernel_rfl) (by kernel_rfl) (by kernel_rfl) (fun _ _ _ h => h) rfl (fun _ _ => exec_leqN rfl rfl rfl LE2.out) S0.out ?_
                  try simp only [Act.put, lqA, lqB, lqC, lqD, lqE, lqF]
                  refine hm_run 3 49 (.bool true) rfl rfl (by kernel_rfl) (by kernel_rfl) (by kernel_rfl) (fun _ _ _ h => h) rfl (fun _ _ => rfl) S0.out ?_
                  try simp only [Act.put, lqA, lqB, lqC, lqD, lqE, lqF]
                  refine hm_run 4 50 (.slice (some ⟨g, 0, none⟩) n c) rfl rfl (by kernel_rfl) (by kernel_rfl) (by kernel_rfl) (fun _ _ _ h => h) rfl (fun _ _ => rfl) S0.out ?_
                  try simp only [Act.put, lqA, lqB, lqC, lqD, lqE, lqF]
                  refine hm_run 5 51 (.int .i64 ((a : Nat) : Int)) rfl rfl (by kernel_rfl) (by kernel_rfl) (by kernel_rfl) (fun _ _ _ h => h) rfl (fun _ _ => rfl) S0.out ?_
                  try simp only [Act.put, lqA, lqB, lqC, lqD, lqE, lqF]
                  refine hm_run 6 52 (.pointer (some ⟨g, 0 + (a) * 1, none⟩)) rfl rfl (by kernel_rfl) (by kernel_rfl) (by kernel_rfl) (fun _ _ _ h => h) rfl (fun W _ => exec_ix rfl (run_ix (k := 1) (j := a) Tryd.underlying54 (by kernel_rfl) (by have := BND2.out; omega) rfl W)) S0.out ?_
                  try simp only [Act.put, lqA, lqB, lqC, lqD, lqE, lqF]
                  refine hm_run 7 53 (.int .u64 ((d2[a]! : Nat) : Int)) rfl rfl (by kernel_rfl) (by kernel_rfl) (by kernel_rfl) (fun _ _ _ h => h) rfl (fun W hW => exec_load rfl (run_load_one Tryd.underlying59 rfl (cell_dn (Lib.hid hW.1) (by have := BND2.out; omega)))) S0.out ?_
                  try simp only [Act.put, lqA, lqB, lqC, lqD, lqE, lqF]
                  refine hm_run 8 54 (.slice (some ⟨g, 0, none⟩) n c) rfl rfl (by kernel_rfl) (by kernel_rfl) (by kernel_rfl) (fun _ _ _ h => h) rfl (fun _ _ => rfl) S0.out ?_
                  try simp only [Act.put, lqA, lqB, lqC, lqD, lqE, lqF]
                  refine hm_run 9 55 (.int .i64 ((p : Nat) : Int)) rfl rfl (by kernel_rfl) (by kernel_rfl) (by kernel_rfl) (fun _ _ _ h => h) rfl (fun _ _ => rfl) S0.out ?_
                  try simp only [Act.put, lqA, lqB, lqC, lqD, lqE, lqF]
                  refine hm_run 10 56 (.pointer (some ⟨g, 0 + (p) * 1, none⟩)) rfl rfl (by kernel_rfl) (by kernel_rfl) (by kernel_rfl) (fun _ _ _ h => h) rfl (fun W _ => exec_ix rfl (run_ix (k := 1) (j := p) Tryd.underlying54 (by kernel_rfl) (by have := BND2.out; omega) rfl W)) S0.out ?_
                  try simp only [Act.put, lqA, lqB, lqC, lqD, lqE, lqF]
                  refine hm_run 11 57 (.int .u64 ((d2[p]! : Nat) : Int)) rfl rfl (by kernel_rfl) (by kernel_rfl) (by kernel_rfl) (fun _ _ _ h => h) rfl (fun W hW => exec_load rfl (run_load_one Tryd.underlying59 rfl (cell_dn (Lib.hid hW.1) (by have := BND2.out; omega)))) S0.out ?_
                  try simp only [Act.put, lqA, lqB, lqC, lqD, lqE, lqF]
                  refine hm_one (i := 12) (by kernel_rfl) ?_
                  refine hm_step 12 rfl (by kernel_rfl) fun K hK => ?_
                  try simp only [Act.put, lqA, lqB, lqC, lqD, lqE, lqF]
                  go_simp
                  go_at_call 58
                  refine (less_any _ _ _).mono ?_
                  rintro e w7 ⟨rfl, rfl⟩
                  rw [LQ2.out]
                  refine hK _ _ S0.out ?_
                  clear hK K
                  try simp only [Act.put, lqA, lqB, lqC, lqD, lqE, lqF]
                  refine hm_run 13 59 (.bool true) rfl rfl (by kernel_rfl) (by kernel_rfl) (by kernel_rfl) (fun _ _ _ h => h) rfl (fun _ _ => rfl) S0.out ?_
                  try simp only [Act.put, lqA, lqB, lqC, lqD, lqE, lqF]
                  refine wpAnyH_done (by kernel_rfl) ?_ _
                  go_wp2_with ((with_reducible refine wpList_at 61 rfl ?_); refine wpList_kn rfl (.int .i64 ((p - 1 : Nat) : Int)) (by exact exec_sub rfl rfl rfl (by have := BND2.out; rw [IntKind.wrap_i64]; omega)) ?_)
                  go_roundg (p - 1)
                  case measure => have := BND2.out; omega
                  case rel => exact ⟨by have := BND2.out; omega, rfl, N, DNX, HB⟩
                · have LQ2 := Lib.hid (decide_eq_false hl2)
                  obtain rfl : p = J2 := by rw [← DN.out]; exact (dn_stop (by simp only [ltN]; exact LQ2.out)).symm
                  have GT := Lib.hid (show decide ((p : Int) < (q : Int)) = false from decide_eq_false (by omega))
                  have INX := Lib.hid (show Go.Sort.partEqLoop ltN a (q + 1) (p - 1) (Go.Sort.swp d2 q p) = R by have h := OUT.out; rw [if_neg (by omega)] at h; exact h)
                  clear DN hqp hl2
                  go_upto_region 5 with fail
                  refine wp_region_T (Φ := fun X => (NRow B X g n c d2 ∧ d2.size = n) ∧ Below B w X) (S := fun X => (NRow B X g n c d2 ∧ d2.size = n) ∧ Below B w X) (Lib.hid ⟨N.out, HB.out⟩) (fun X h => ⟨⟨h.1.1.below ((Below.refl _ _).drew), h.1.2⟩, h.2.drew⟩) (fun X h => h) (by kernel_rfl) ?_
                  clear N HB
                  intro wx TT S0
                  have N := Lib.hid TT.out.1
                  have HB := Lib.hid TT.out.2
                  clear TT
                  refine hm_run 0 46 (.int .i64 ((q : Nat) : Int)) rfl rfl (by kernel_rfl) (by kernel_rfl) (by kernel_rfl) (fun _ _ _ h => h) rfl (fun _ _ => rfl) S0.out ?_
                  try simp only [Act.put, lqA, lqB, lqC, lqD, lqE, lqF]
                  refine hm_run 1 47 (.int .i64 ((p : Nat) : Int)) rfl rfl (by kernel_rfl) (by kernel_rfl) (by kernel_rfl) (fun _ _ _ h => h) rfl (fun _ _ => rfl) S0.out ?_
                  try simp only [Act.put, lqA, lqB, lqC, lqD, lqE, lqF]
                  refine hm_run 2 48 (.bool true) rfl rfl (by kernel_rfl) (by kernel_rfl) (by kernel_rfl) (fun _ _ _ h => h) rfl (fun _ _ => exec_leqN rfl rfl rfl LE2.out) S0.out ?_
                  try simp only [Act.put, lqA, lqB, lqC, lqD, lqE, lqF]
                  refine hm_run 3 49 (.bool true) rfl rfl (by kernel_rfl) (by kernel_rfl) (by kernel_rfl) (fun _ _ _ h => h) rfl (fun _ _ => rfl) S0.out ?_
                  try simp only [Act.put, lqA, lqB, lqC, lqD, lqE, lqF]
                  refine hm_run 4 50 (.slice (some ⟨g, 0, none⟩) n c) rfl rfl (by kernel_rfl) (by kernel_rfl) (by kernel_rfl) (fun _ _ _ h => h) rfl (fun _ _ => rfl) S0.out ?_
                  try simp only [Act.put, lqA, lqB, lqC, lqD, lqE, lqF]
                  refine hm_run 5 51 (.int .i64 ((a : Nat) : Int)) rfl rfl (by kernel_rfl) (by kernel_rfl) (by kernel_rfl) (fun _ _ _ h => h) rfl (fun _ _ => rfl) S0.out ?_
                  try simp only [Act.put, lqA, lqB, lqC, lqD, lqE, lqF]
                  refine hm_run 6 52 (.pointer (some ⟨g, 0 + (a) * 1, none⟩)) rfl rfl (by kernel_rfl) (by kernel_rfl) (by kernel_rfl) (fun _ _ _ h => h) rfl (fun W _ => exec_ix rfl (run_ix (k := 1) (j := a) Tryd.underlying54 (by kernel_rfl) (by have := BND2.out; omega) rfl W)) S0.out ?_
                  try simp only [Act.put, lqA, lqB, lqC, lqD, lqE, lqF]
                  refine hm_run 7 53 (.int .u64 ((d2[a]! : Nat) : Int)) rfl rfl (by kernel_rfl) (by kernel_rfl) (by kernel_rfl) (fun _ _ _ h => h) rfl (fun W hW => exec_load rfl (run_load_one Tryd.underlying59 rfl (cell_dn (Lib.hid hW.1) (by have := BND2.out; omega)))) S0.out ?_
                  try simp only [Act.put, lqA, lqB, lqC, lqD, lqE, lqF]
                  refine hm_run 8 54 (.slice (some ⟨g, 0, none⟩) n c) rfl rfl (by kernel_rfl) (by kernel_rfl) (by kernel_rfl) (fun _ _ _ h => h) rfl (fun _ _ => rfl) S0.out ?_
                  try simp only [Act.put, lqA, lqB, lqC, lqD, lqE, lqF]
                  refine hm_run 9 55 (.int .i64 ((p : Nat) : Int)) rfl rfl (by kernel_rfl) (by kernel_rfl) (by kernel_rfl) (fun _ _ _ h => h) rfl (fun _ _ => rfl) S0.out ?_
                  try simp only [Act.put, lqA, lqB, lqC, lqD, lqE, lqF]
                  refine hm_run 10 56 (.pointer (some ⟨g, 0 + (p) * 1, none⟩)) rfl rfl (by kernel_rfl) (by kernel_rfl) (by kernel_rfl) (fun _ _ _ h => h) rfl (fun W _ => exec_ix rfl (run_ix (k := 1) (j := p) Tryd.underlying54 (by kernel_rfl) (by have := BND2.out; omega) rfl W)) S0.out ?_
                  try simp only [Act.put, lqA, lqB, lqC, lqD, lqE, lqF]
                  refine hm_run 11 57 (.int .u64 ((d2[p]! : Nat) : Int)) rfl rfl (by kernel_rfl) (by kernel_rfl) (by kernel_rfl) (fun _ _ _ h => h) rfl (fun W hW => exec_load rfl (run_load_one Tryd.underlying59 rfl (cell_dn (Lib.hid hW.1) (by have := BND2.out; omega)))) S0.out ?_
                  try simp only [Act.put, lqA, lqB, lqC, lqD, lqE, lqF]
                  refine hm_one (i := 12) (by kernel_rfl) ?_
                  refine hm_step 12 rfl (by kernel_rfl) fun K hK => ?_
                  try simp only [Act.put, lqA, lqB, lqC, lqD, lqE, lqF]
                  go_simp
                  go_at_call 58
                  refine (less_any _ _ _).mono ?_
                  rintro e w7 ⟨rfl, rfl⟩
                  rw [LQ2.out]
                  refine hK _ _ S0.out ?_
                  clear hK K
                  try simp only [Act.put, lqA, lqB, lqC, lqD, lqE, lqF]
                  refine hm_run 13 59 (.bool false) rfl rfl (by kernel_rfl) (by kernel_rfl) (by kernel_rfl) (fun _ _ _ h => h) rfl (fun _ _ => rfl) S0.out ?_
                  try simp only [Act.put, lqA, lqB, lqC, lqD, lqE, lqF]
                  refine wpAnyH_done (by kernel_rfl) ?_ _
                  go_upto_region 8 with ((with_reducible refine wpList_at 64 rfl ?_); refine wpList_kn rfl (.bool false) (by exact exec_gtrN rfl rfl rfl GT.out) ?_)
                  refine wp_region_T (Φ := fun X => (NRow B X g n c d2 ∧ d2.size = n) ∧ Below B w X) (S := fun _ => True) (Lib.hid ⟨N.out, HB.out⟩) (fun X h => ⟨⟨h.1.1.below ((Below.refl _ _).drew), h.1.2⟩, h.2.drew⟩) (fun _ _ => trivial) (by kernel_rfl) ?_
                  clear N HB
                  intro wx TT S0
                  have N := Lib.hid TT.out.1
                  have HB := Lib.hid TT.out.2
                  clear TT
                  refine hm_run 0 65 (.slice (some ⟨g, 0, none⟩) n c) rfl rfl (by kernel_rfl) (by kernel_rfl) (by kernel_rfl) (fun _ _ _ h => h) rfl (fun _ _ => rfl) trivial ?_
                  try simp only [Act.put, lqA, lqB, lqC, lqD, lqE, lqF]
                  refine hm_run 1 66 (.int .i64 ((q : Nat) : Int)) rfl rfl (by kernel_rfl) (by kernel_rfl) (by kernel_rfl) (fun _ _ _ h => h) rfl (fun _ _ => rfl) trivial ?_
                  try simp only [Act.put, lqA, lqB, lqC, lqD, lqE, lqF]
                  refine hm_run 2 67 (.slice (some ⟨g, 0, none⟩) n c) rfl rfl (by kernel_rfl) (by kernel_rfl) (by kernel_rfl) (fun _ _ _ h => h) rfl (fun _ _ => rfl) trivial ?_
                  try simp only [Act.put, lqA, lqB, lqC, lqD, lqE, lqF]
                  refine hm_run 3 68 (.int .i64 ((p : Nat) : Int)) rfl rfl (by kernel_rfl) (by kernel_rfl) (by kernel_rfl) (fun _ _ _ h => h) rfl (fun _ _ => rfl) trivial ?_
                  try simp only [Act.put, lqA, lqB, lqC, lqD, lqE, lqF]
                  refine hm_run 4 69 (.slice (some ⟨g, 0, none⟩) n c) rfl rfl (by kernel_rfl) (by kernel_rfl) (by kernel_rfl) (fun _ _ _ h => h) rfl (fun _ _ => rfl) trivial ?_
                  try simp only [Act.put, lqA, lqB, lqC, lqD, lqE, lqF]
                  refine hm_run 5 70 (.int .i64 ((p : Nat) : Int)) rfl rfl (by kernel_rfl) (by kernel_rfl) (by kernel_rfl) (fun _ _ _ h => h) rfl (fun _ _ => rfl) trivial ?_
                  try simp only [Act.put, lqA, lqB, lqC, lqD, lqE, lqF]
                  refine hm_run 6 71 (.pointer (some ⟨g, 0 + (p) * 1, none⟩)) rfl rfl (by kernel_rfl) (by kernel_rfl) (by kernel_rfl) (fun _ _ _ h => h) rfl (fun W _ => exec_ix rfl (run_ix (k := 1) (j := p) Tryd.underlying54 (by kernel_rfl) (by have := BND2.out; omega) rfl W)) trivial ?_
                  try simp only [Act.put, lqA, lqB, lqC, lqD, lqE, lqF]
                  refine hm_run 8 73 (.slice (some ⟨g, 0, none⟩) n c) rfl rfl (by kernel_rfl) (by kernel_rfl) (by kernel_rfl) (fun _ _ _ h => h) rfl (fun _ _ => rfl) trivial ?_
                  try simp only [Act.put, lqA, lqB, lqC, lqD, lqE, lqF]
                  refine hm_run 9 74 (.int .i64 ((q : Nat) : Int)) rfl rfl (by kernel_rfl) (by kernel_rfl) (by kernel_rfl) (fun _ _ _ h => h) rfl (fun _ _ => rfl) trivial ?_
                  try simp only [Act.put, lqA, lqB, lqC, lqD, lqE, lqF]
                  refine hm_run 10 75 (.pointer (some ⟨g, 0 + (q) * 1, none⟩)) rfl rfl (by kernel_rfl) (by kernel_rfl) (by kernel_rfl) (fun _ _ _ h => h) rfl (fun W _ => exec_ix rfl (run_ix (k := 1) (j := q) Tryd.underlying54 (by kernel_rfl) (by have := BND2.out; omega) rfl W)) trivial ?_
                  try simp only [Act.put, lqA, lqB, lqC, lqD, lqE, lqF]
                  refine hm_two (i := 7) (j := 11) (by kernel_rfl) ?_ ?_
                  · refine hm_step 7 rfl (by kernel_rfl) fun K hK => ?_
                    try simp only [Act.put, lqA, lqB, lqC, lqD, lqE, lqF]
                    refine mo_known (.int .u64 ((d2[p]! : Nat) : Int)) _ (exec_load rfl (run_load_one Tryd.underlying59 rfl (cell_dn N (by have := BND2.out; omega)))) ?_
                    refine hK _ _ trivial ?_
                    clear hK K
                    try simp only [Act.put, lqA, lqB, lqC, lqD, lqE, lqF]
                    refine hm_one (i := 11) (by kernel_rfl) ?_
                    refine hm_step 11 rfl (by kernel_rfl) fun K hK => ?_
                    try simp only [Act.put, lqA, lqB, lqC, lqD, lqE, lqF]
                    refine mo_known (.int .u64 ((d2[q]! : Nat) : Int)) _ (exec_load rfl (run_load_one Tryd.underlying59 rfl (cell_dn N (by have := BND2.out; omega)))) ?_
                    refine hK _ _ trivial ?_
                    clear hK K
                    try simp only [Act.put, lqA, lqB, lqC, lqD, lqE, lqF]
                    refine hm_run 12 77 (.pointer (some ⟨g, 0 + (q) * 1, none⟩)) rfl rfl (by kernel_rfl) (by kernel_rfl) (by kernel_rfl) (fun _ _ _ h => h) rfl (fun W _ => exec_ix rfl (run_ix (k := 1) (j := q) Tryd.underlying54 (by kernel_rfl) (by have := BND2.out; omega) rfl W)) trivial ?_
                    try simp only [Act.put, lqA, lqB, lqC, lqD, lqE, lqF]
                    refine hm_one (i := 13) (by kernel_rfl) ?_
                    refine hm_step 13 rfl (by kernel_rfl) fun K hK => ?_
                    try simp only [Act.put, lqA, lqB, lqC, lqD, lqE, lqF]
                    refine mo_vput (i := q) (v := d2[p]!) (.tmp 77) (.tmp 72) rfl N rfl rfl (by have := BND2.out; omega) ?_
                    clear N
                    intro w9 N hb9
                    replace HB := Lib.hid (HB.out.trans hb9.out)
                    clear hb9
                    refine hK _ _ trivial ?_
                    clear hK K
                    try simp only [Act.put, lqA, lqB, lqC, lqD, lqE, lqF]
                    refine hm_run 14 78 (.pointer (some ⟨g, 0 + (p) * 1, none⟩)) rfl rfl (by kernel_rfl) (by kernel_rfl) (by kernel_rfl) (fun _ _ _ h => h) rfl (fun W _ => exec_ix rfl (run_ix (k := 1) (j := p) Tryd.underlying54 (by kernel_rfl) (by have := BND2.out; omega) rfl W)) trivial ?_
                    try simp only [Act.put, lqA, lqB, lqC, lqD, lqE, lqF]
                    refine hm_one (i := 15) (by kernel_rfl) ?_
                    refine hm_step 15 rfl (by kernel_rfl) fun K hK => ?_
                    try simp only [Act.put, lqA, lqB, lqC, lqD, lqE, lqF]
                    refine mo_vput (i := p) (v := d2[q]!) (.tmp 78) (.tmp 76) rfl N rfl rfl (by have := BND2.out; omega) ?_
                    clear N
                    intro w9 N hb9
                    replace HB := Lib.hid (HB.out.trans hb9.out)
                    clear hb9
                    refine hK _ _ trivial ?_
                    clear hK K
                    try simp only [Act.put, lqA, lqB, lqC, lqD, lqE, lqF]
                    refine wpAnyH_done (by kernel_rfl) ?_ _
                    go_wp2_with (first | ((with_reducible refine wpList_at 80 rfl ?_); refine wpList_kn rfl (.int .i64 ((q + 1 : Nat) : Int)) (by exact exec_add rfl rfl rfl (by have := BND2.out; rw [IntKind.wrap_i64]; omega)) ?_) | ((with_reducible refine wpList_at 82 rfl ?_); refine wpList_kn rfl (.int .i64 ((p - 1 : Nat) : Int)) (by exact exec_sub rfl rfl rfl (by have := BND2.out; rw [IntKind.wrap_i64]; omega)) ?_))
                    go_roundg ((p - 1) + 1 - (q + 1))
                    case measure => have := BND2.out; have := KI.out; omega
                    case rel => exact ⟨q + 1, p - 1, ((d2.setIfInBounds (q) d2[p]!).setIfInBounds (p) d2[q]!), rfl, by have := BND2.out; omega, by have := BND2.out; omega, by have := BND2.out; omega, rfl, rfl, N, INX, HB⟩
                  · refine hm_step 11 rfl (by kernel_rfl) fun K hK => ?_
                    try simp only [Act.put, lqA, lqB, lqC, lqD, lqE, lqF]
                    refine mo_known (.int .u64 ((d2[q]! : Nat) : Int)) _ (exec_load rfl (run_load_one Tryd.underlying59 rfl (cell_dn N (by have := BND2.out; omega)))) ?_
                    refine hK _ _ trivial ?_
                    clear hK K
                    try simp only [Act.put, lqA, lqB, lqC, lqD, lqE, lqF]
                    refine hm_one (i := 7) (by kernel_rfl) ?_
                    refine hm_step 7 rfl (by kernel_rfl) fun K hK => ?_
                    try simp only [Act.put, lqA, lqB, lqC, lqD, lqE, lqF]
                    refine mo_known (.int .u64 ((d2[p]! : Nat) : Int)) _ (exec_load rfl (run_load_one Tryd.underlying59 rfl (cell_dn N (by have := BND2.out; omega)))) ?_
                    refine hK _ _ trivial ?_
                    clear hK K
                    try simp only [Act.put, lqA, lqB, lqC, lqD, lqE, lqF]
                    refine hm_run 12 77 (.pointer (some ⟨g, 0 + (q) * 1, none⟩)) rfl rfl (by kernel_rfl) (by kernel_rfl) (by kernel_rfl) (fun _ _ _ h => h) rfl (fun W _ => exec_ix rfl (run_ix (k := 1) (j := q) Tryd.underlying54 (by kernel_rfl) (by have := BND2.out; omega) rfl W)) trivial ?_
                    try simp only [Act.put, lqA, lqB, lqC, lqD, lqE, lqF]
                    refine hm_one (i := 13) (by kernel_rfl) ?_
                    refine hm_step 13 rfl (by kernel_rfl) fun K hK => ?_
                    try simp only [Act.put, lqA, lqB, lqC, lqD, lqE, lqF]
                    refine mo_vput (i := q) (v := d2[p]!) (.tmp 77) (.tmp 72) rfl N rfl rfl (by have := BND2.out; omega) ?_
                    clear N
                    intro w9 N hb9
                    replace HB := Lib.hid (HB.out.trans hb9.out)
                    clear hb9
                    refine hK _ _ trivial ?_
                    clear hK K
                    try simp only [Act.put, lqA, lqB, lqC, lqD, lqE, lqF]
                    refine hm_run 14 78 (.pointer (some ⟨g, 0 + (p) * 1, none⟩)) rfl rfl (by kernel_rfl) (by kernel_rfl) (by kernel_rfl) (fun _ _ _ h => h) rfl (fun W _ => exec_ix rfl (run_ix (k := 1) (j := p) Tryd.underlying54 (by kernel_rfl) (by have := BND2.out; omega) rfl W)) trivial ?_
                    try simp only [Act.put, lqA, lqB, lqC, lqD, lqE, lqF]
                    refine hm_one (i := 15) (by kernel_rfl) ?_
                    refine hm_step 15 rfl (by kernel_rfl) fun K hK => ?_
                    try simp only [Act.put, lqA, lqB, lqC, lqD, lqE, lqF]
                    refine mo_vput (i := p) (v := d2[q]!) (.tmp 78) (.tmp 76) rfl N rfl rfl (by have := BND2.out; omega) ?_
                    clear N
                    intro w9 N hb9
                    replace HB := Lib.hid (HB.out.trans hb9.out)
                    clear hb9
                    refine hK _ _ trivial ?_
                    clear hK K
                    try simp only [Act.put, lqA, lqB, lqC, lqD, lqE, lqF]
                    refine wpAnyH_done (by kernel_rfl) ?_ _
                    go_wp2_with (first | ((with_reducible refine wpList_at 80 rfl ?_); refine wpList_kn rfl (.int .i64 ((q + 1 : Nat) : Int)) (by exact exec_add rfl rfl rfl (by have := BND2.out; rw [IntKind.wrap_i64]; omega)) ?_) | ((with_reducible refine wpList_at 82 rfl ?_); refine wpList_kn rfl (.int .i64 ((p - 1 : Nat) : Int)) (by exact exec_sub rfl rfl rfl (by have := BND2.out; rw [IntKind.wrap_i64]; omega)) ?_))
                    go_roundg ((p - 1) + 1 - (q + 1))
                    case measure => have := BND2.out; have := KI.out; omega
                    case rel => exact ⟨q + 1, p - 1, ((d2.setIfInBounds (q) d2[p]!).setIfInBounds (p) d2[q]!), rfl, by have := BND2.out; omega, by have := BND2.out; omega, by have := BND2.out; omega, rfl, rfl, N, INX, HB⟩
              · have LE2 := Lib.hid (show decide ((q : Int) ≤ (p : Int)) = false from decide_eq_false (by omega))
                obtain rfl : p = J2 := by rw [← DN.out]; exact (dn_off hqp).symm
                have GT := Lib.hid (show decide ((p : Int) < (q : Int)) = true from decide_eq_true (by omega))
                have RX := Lib.hid (show (q, d2) = R by have h := OUT.out; rw [if_pos (by omega)] at h; exact h)
                clear DN hqp OUT
                go_upto_region 5 with fail
                refine wp_region_T (Φ := fun X => (NRow B X g n c d2 ∧ d2.size = n) ∧ Below B w X) (S := fun X => (NRow B X g n c d2 ∧ d2.size = n) ∧ Below B w X) (Lib.hid ⟨N.out, HB.out⟩) (fun X h => ⟨⟨h.1.1.below ((Below.refl _ _).drew), h.1.2⟩, h.2.drew⟩) (fun X h => h) (by kernel_rfl) ?_
                clear N HB
                intro wx TT S0
                have N := Lib.hid TT.out.1
                have HB := Lib.hid TT.out.2
                clear TT
                refine hm_run 0 46 (.int .i64 ((q : Nat) : Int)) rfl rfl (by kernel_rfl) (by kernel_rfl) (by kernel_rfl) (fun _ _ _ h => h) rfl (fun _ _ => rfl) S0.out ?_
                try simp only [Act.put, lqA, lqB, lqC, lqD, lqE, lqF]
                refine hm_run 1 47 (.int .i64 ((p : Nat) : Int)) rfl rfl (by kernel_rfl) (by kernel_rfl) (by kernel_rfl) (fun _ _ _ h => h) rfl (fun _ _ => rfl) S0.out ?_
                try simp only [Act.put, lqA, lqB, lqC, lqD, lqE, lqF]
                refine hm_run 2 48 (.bool false) rfl rfl (by kernel_rfl) (by kernel_rfl) (by kernel_rfl) (fun _ _ _ h => h) rfl (fun _ _ => exec_leqN rfl rfl rfl LE2.out) S0.out ?_
                try simp only [Act.put, lqA, lqB, lqC, lqD, lqE, lqF]
                refine hm_run 3 49 (.bool false) rfl rfl (by kernel_rfl) (by kernel_rfl) (by kernel_rfl) (fun _ _ _ h => h) rfl (fun _ _ => rfl) S0.out ?_
                try simp only [Act.put, lqA, lqB, lqC, lqD, lqE, lqF]
                refine hm_off 4 50 rfl rfl (by kernel_rfl) (by kernel_rfl) (by kernel_rfl) (fun _ _ _ h => h) rfl S0.out ?_
                try simp only [Act.put, lqA, lqB, lqC, lqD, lqE, lqF]
                refine hm_off 5 51 rfl rfl (by kernel_rfl) (by kernel_rfl) (by kernel_rfl) (fun _ _ _ h => h) rfl S0.out ?_
                try simp only [Act.put, lqA, lqB, lqC, lqD, lqE, lqF]
                refine hm_off 6 52 rfl rfl (by kernel_rfl) (by kernel_rfl) (by kernel_rfl) (fun _ _ _ h => h) rfl S0.out ?_
                try simp only [Act.put, lqA, lqB, lqC, lqD, lqE, lqF]
                refine hm_off 7 53 rfl rfl (by kernel_rfl) (by kernel_rfl) (by kernel_rfl) (fun _ _ _ h => h) rfl S0.out ?_
                try simp only [Act.put, lqA, lqB, lqC, lqD, lqE, lqF]
                refine hm_off 8 54 rfl rfl (by kernel_rfl) (by kernel_rfl) (by kernel_rfl) (fun _ _ _ h => h) rfl S0.out ?_
                try simp only [Act.put, lqA, lqB, lqC, lqD, lqE, lqF]
                refine hm_off 9 55 rfl rfl (by kernel_rfl) (by kernel_rfl) (by kernel_rfl) (fun _ _ _ h => h) rfl S0.out ?_
                try simp only [Act.put, lqA, lqB, lqC, lqD, lqE, lqF]
                refine hm_off 10 56 rfl rfl (by kernel_rfl) (by kernel_rfl) (by kernel_rfl) (fun _ _ _ h => h) rfl S0.out ?_
                try simp only [Act.put, lqA, lqB, lqC, lqD, lqE, lqF]
                refine hm_off 11 57 rfl rfl (by kernel_rfl) (by kernel_rfl) (by kernel_rfl) (fun _ _ _ h => h) rfl S0.out ?_
                try simp only [Act.put, lqA, lqB, lqC, lqD, lqE, lqF]
                refine hm_off 12 58 rfl rfl (by kernel_rfl) (by kernel_rfl) (by kernel_rfl) (fun _ _ _ h => h) rfl S0.out ?_
                try simp only [Act.put, lqA, lqB, lqC, lqD, lqE, lqF]
                refine hm_run 13 59 (.bool false) rfl rfl (by kernel_rfl) (by kernel_rfl) (by kernel_rfl) (fun _ _ _ h => h) rfl (fun _ _ => rfl) S0.out ?_
                try simp only [Act.put, lqA, lqB, lqC, lqD, lqE, lqF]
                refine wpAnyH_done (by kernel_rfl) ?_ _
                go_wp2_with ((with_reducible refine wpList_at 64 rfl ?_); refine wpList_kn rfl (.bool true) (by exact exec_gtrN rfl rfl rfl GT.out) ?_)
                ((try simp only [Exit.inBlock, Exit.then]); refine bodyPost_ret (results_tmp rfl _ _ _) rfl ?_)
                exact ⟨by rw [← RX.out]; rfl, by rw [← RX.out]; exact N.out, HB.out⟩
          · have LQ := Lib.hid (decide_eq_false hl)
            have UPX := Lib.hid (show Go.Sort.scanUp (fun x => !ltN d2[a]! x) d2 j (q + 1) = I2 by rw [← UP.out]; exact (up_go hqj (by simp only [ltN]; rw [LQ.out]; rfl)).symm)
            clear UP hqj hl
            go_upto_region 3 with fail
            refine wp_region_T (Φ := fun X => (NRow B X g n c d2 ∧ d2.size = n) ∧ Below B w X) (S := fun X => (NRow B X g n c d2 ∧ d2.size = n) ∧ Below B w X) (Lib.hid ⟨N.out, HB.out⟩) (fun X h => ⟨⟨h.1.1.below ((Below.refl _ _).drew), h.1.2⟩, h.2.drew⟩) (fun X h => h) (by kernel_rfl) ?_
            clear N HB
            intro wx TT S0
            have N := Lib.hid TT.out.1
            have HB := Lib.hid TT.out.2
            clear TT
            refine hm_run 0 29 (.int .i64 ((q : Nat) : Int)) rfl rfl (by kernel_rfl) (by kernel_rfl) (by kernel_rfl) (fun _ _ _ h => h) rfl (fun _ _ => rfl) S0.out ?_
            try simp only [Act.put, lqA, lqB, lqC, lqD, lqE, lqF]
            refine hm_run 1 30 (.int .i64 ((j : Nat) : Int)) rfl rfl (by kernel_rfl) (by kernel_rfl) (by kernel_rfl) (fun _ _ _ h => h) rfl (fun _ _ => rfl) S0.out ?_
            try simp only [Act.put, lqA, lqB, lqC, lqD, lqE, lqF]
            refine hm_run 2 31 (.bool true) rfl rfl (by kernel_rfl) (by kernel_rfl) (by kernel_rfl) (fun _ _ _ h => h) rfl (fun _ _ => exec_leqN rfl rfl rfl LE.out) S0.out ?_
            try simp only [Act.put, lqA, lqB, lqC, lqD, lqE, lqF]
            refine hm_run 3 32 (.bool true) rfl rfl (by kernel_rfl) (by kernel_rfl) (by kernel_rfl) (fun _ _ _ h => h) rfl (fun _ _ => rfl) S0.out ?_
            try simp only [Act.put, lqA, lqB, lqC, lqD, lqE, lqF]
            refine hm_run 4 33 (.slice (some ⟨g, 0, none⟩) n c) rfl rfl (by kernel_rfl) (by kernel_rfl) (by kernel_rfl) (fun _ _ _ h => h) rfl (fun _ _ => rfl) S0.out ?_
            try simp only [Act.put, lqA, lqB, lqC, lqD, lqE, lqF]
            refine hm_run 5 34 (.int .i64 ((a : Nat) : Int)) rfl rfl (by kernel_rfl) (by kernel_rfl) (by kernel_rfl) (fun _ _ _ h => h) rfl (fun _ _ => rfl) S0.out ?_
            try simp only [Act.put, lqA, lqB, lqC, lqD, lqE, lqF]
            refine hm_run 6 35 (.pointer (some ⟨g, 0 + (a) * 1, none⟩)) rfl rfl (by kernel_rfl) (by kernel_rfl) (by kernel_rfl) (fun _ _ _ h => h) rfl (fun W _ => exec_ix rfl (run_ix (k := 1) (j := a) Tryd.underlying54 (by kernel_rfl) (by have := BND.out; omega) rfl W)) S0.out ?_
            try simp only [Act.put, lqA, lqB, lqC, lqD, lqE, lqF]
            refine hm_run 7 36 (.int .u64 ((d2[a]! : Nat) : Int)) rfl rfl (by kernel_rfl) (by kernel_rfl) (by kernel_rfl) (fun _ _ _ h => h) rfl (fun W hW => exec_load rfl (run_load_one Tryd.underlying59 rfl (cell_dn (Lib.hid hW.1) (by have := BND.out; omega)))) S0.out ?_
            try simp only [Act.put, lqA, lqB, lqC, lqD, lqE, lqF]
            refine hm_run 8 37 (.slice (some ⟨g, 0, none⟩) n c) rfl rfl (by kernel_rfl) (by kernel_rfl) (by kernel_rfl) (fun _ _ _ h => h) rfl (fun _ _ => rfl) S0.out ?_
            try simp only [Act.put, lqA, lqB, lqC, lqD, lqE, lqF]
            refine hm_run 9 38 (.int .i64 ((q : Nat) : Int)) rfl rfl (by kernel_rfl) (by kernel_rfl) (by kernel_rfl) (fun _ _ _ h => h) rfl (fun _ _ => rfl) S0.out ?_
            try simp only [Act.put, lqA, lqB, lqC, lqD, lqE, lqF]
            refine hm_run 10 39 (.pointer (some ⟨g, 0 + (q) * 1, none⟩)) rfl rfl (by kernel_rfl) (by kernel_rfl) (by kernel_rfl) (fun _ _ _ h => h) rfl (fun W _ => exec_ix rfl (run_ix (k := 1) (j := q) Tryd.underlying54 (by kernel_rfl) (by have := BND.out; omega) rfl W)) S0.out ?_
            try simp only [Act.put, lqA, lqB, lqC, lqD, lqE, lqF]
            refine hm_run 11 40 (.int .u64 ((d2[q]! : Nat) : Int)) rfl rfl (by kernel_rfl) (by kernel_rfl) (by kernel_rfl) (fun _ _ _ h => h) rfl (fun W hW => exec_load rfl (run_load_one Tryd.underlying59 rfl (cell_dn (Lib.hid hW.1) (by have := BND.out; omega)))) S0.out ?_
            try simp only [Act.put, lqA, lqB, lqC, lqD, lqE, lqF]
            refine hm_one (i := 12) (by kernel_rfl) ?_
            refine hm_step 12 rfl (by kernel_rfl) fun K hK => ?_
            try simp only [Act.put, lqA, lqB, lqC, lqD, lqE, lqF]
            go_simp
            go_at_call 58
            refine (less_any _ _ _).mono ?_
            rintro e w7 ⟨rfl, rfl⟩
            rw [LQ.out]
            refine hK _ _ S0.out ?_
            clear hK K
            try simp only [Act.put, lqA, lqB, lqC, lqD, lqE, lqF]
            refine hm_run 13 42 (.bool true) rfl rfl (by kernel_rfl) (by kernel_rfl) (by kernel_rfl) (fun _ _ _ h => h) rfl (fun _ _ => rfl) S0.out ?_
            try simp only [Act.put, lqA, lqB, lqC, lqD, lqE, lqF]
            refine hm_run 14 43 (.bool true) rfl rfl (by kernel_rfl) (by kernel_rfl) (by kernel_rfl) (fun _ _ _ h => h) rfl (fun _ _ => rfl) S0.out ?_
            try simp only [Act.put, lqA, lqB, lqC, lqD, lqE, lqF]
            refine wpAnyH_done (by kernel_rfl) ?_ _
            go_wp2_with ((with_reducible refine wpList_at 45 rfl ?_); refine wpList_kn rfl (.int .i64 ((q + 1 : Nat) : Int)) (by exact exec_add rfl rfl rfl (by have := BND.out; rw [IntKind.wrap_i64]; omega)) ?_)
            go_roundg (j + 1 - (q + 1))
            case measure => have := BND.out; have := KQ.out; omega
            case rel => exact ⟨q + 1, rfl, by have := BND.out; omega, by have := BND.out; omega, rfl, N, UPX, HB⟩
        · have LE := Lib.hid (show decide ((q : Int) ≤ (j : Int)) = false from decide_eq_false (by omega))
          obtain rfl : q = I2 := by rw [← UP.out]; exact (up_off hqj).symm
          clear UP hqj
          go_upto_region 3 with fail
          refine wp_region_T (Φ := fun X => (NRow B X g n c d2 ∧ d2.size = n) ∧ Below B w X) (S := fun X => (NRow B X g n c d2 ∧ d2.size = n) ∧ Below B w X) (Lib.hid ⟨N.out, HB.out⟩) (fun X h => ⟨⟨h.1.1.below ((Below.refl _ _).drew), h.1.2⟩, h.2.drew⟩) (fun X h => h) (by kernel_rfl) ?_
          clear N HB
          intro wx TT S0
          have N := Lib.hid TT.out.1
          have HB := Lib.hid TT.out.2
          clear TT
          refine hm_run 0 29 (.int .i64 ((q : Nat) : Int)) rfl rfl (by kernel_rfl) (by kernel_rfl) (by kernel_rfl) (fun _ _ _ h => h) rfl (fun _ _ => rfl) S0.out ?_
          try simp only [Act.put, lqA, lqB, lqC, lqD, lqE, lqF]
          refine hm_run 1 30 (.int .i64 ((j : Nat) : Int)) rfl rfl (by kernel_rfl) (by kernel_rfl) (by kernel_rfl) (fun _ _ _ h => h) rfl (fun _ _ => rfl) S0.out ?_
          try simp only [Act.put, lqA, lqB, lqC, lqD, lqE, lqF]
          refine hm_run 2 31 (.bool false) rfl rfl (by kernel_rfl) (by kernel_rfl) (by kernel_rfl) (fun _ _ _ h => h) rfl (fun _ _ => exec_leqN rfl rfl rfl LE.out) S0.out ?_
          try simp only [Act.put, lqA, lqB, lqC, lqD, lqE, lqF]
          refine hm_run 3 32 (.bool false) rfl rfl (by kernel_rfl) (by kernel_rfl) (by kernel_rfl) (fun _ _ _ h => h) rfl (fun _ _ => rfl) S0.out ?_
          try simp only [Act.put, lqA, lqB, lqC, lqD, lqE, lqF]
          refine hm_off 4 33 rfl rfl (by kernel_rfl) (by kernel_rfl) (by kernel_rfl) (fun _ _ _ h => h) rfl S0.out ?_
          try simp only [Act.put, lqA, lqB, lqC, lqD, lqE, lqF]
          refine hm_off 5 34 rfl rfl (by kernel_rfl) (by kernel_rfl) (by kernel_rfl) (fun _ _ _ h => h) rfl S0.out ?_
          try simp only [Act.put, lqA, lqB, lqC, lqD, lqE, lqF]
          refine hm_off 6 35 rfl rfl (by kernel_rfl) (by kernel_rfl) (by kernel_rfl) (fun _ _ _ h => h) rfl S0.out ?_
          try simp only [Act.put, lqA, lqB, lqC, lqD, lqE, lqF]
          refine hm_off 7 36 rfl rfl (by kernel_rfl) (by kernel_rfl) (by kernel_rfl) (fun _ _ _ h => h) rfl S0.out ?_
          try simp only [Act.put, lqA, lqB, lqC, lqD, lqE, lqF]
          refine hm_off 8 37 rfl rfl (by kernel_rfl) (by kernel_rfl) (by kernel_rfl) (fun _ _ _ h => h) rfl S0.out ?_
          try simp only [Act.put, lqA, lqB, lqC, lqD, lqE, lqF]
          refine hm_off 9 38 rfl rfl (by kernel_rfl) (by kernel_rfl) (by kernel_rfl) (fun _ _ _ h => h) rfl S0.out ?_
          try simp only [Act.put, lqA, lqB, lqC, lqD, lqE, lqF]
          refine hm_off 10 39 rfl rfl (by kernel_rfl) (by kernel_rfl) (by kernel_rfl) (fun _ _ _ h => h) rfl S0.out ?_
          try simp only [Act.put, lqA, lqB, lqC, lqD, lqE, lqF]
          refine hm_off 11 40 rfl rfl (by kernel_rfl) (by kernel_rfl) (by kernel_rfl) (fun _ _ _ h => h) rfl S0.out ?_
          try simp only [Act.put, lqA, lqB, lqC, lqD, lqE, lqF]
          refine hm_off 12 41 rfl rfl (by kernel_rfl) (by kernel_rfl) (by kernel_rfl) (fun _ _ _ h => h) rfl S0.out ?_
          try simp only [Act.put, lqA, lqB, lqC, lqD, lqE, lqF]
          refine hm_off 13 42 rfl rfl (by kernel_rfl) (by kernel_rfl) (by kernel_rfl) (fun _ _ _ h => h) rfl S0.out ?_
          try simp only [Act.put, lqA, lqB, lqC, lqD, lqE, lqF]
          refine hm_run 14 43 (.bool false) rfl rfl (by kernel_rfl) (by kernel_rfl) (by kernel_rfl) (fun _ _ _ h => h) rfl (fun _ _ => rfl) S0.out ?_
          try simp only [Act.put, lqA, lqB, lqC, lqD, lqE, lqF]
          refine wpAnyH_done (by kernel_rfl) ?_ _
          go_upto_region 5 with fail
          go_loopg [10] j (fun k s10 wr => k ≤ j ∧ s10 = .int .i64 (k : Int) ∧ Hid (NRow B wr g n c d2 ∧ d2.size = n) ∧ Hid (Go.Sort.scanDown (fun x => ltN d2[a]! x) d2 q k = J2) ∧ Hid (Below B w wr))
          case atStart => exact ⟨Nat.le_refl _, rfl, N, DN, HB⟩
          case round =>
            clear N DN HB
            obtain ⟨hpj, rfl, N, DN, HB⟩ := hrel
            obtain ⟨p, rfl⟩ : ∃ p : Nat, p = gk := ⟨_, rfl⟩
            have BND2 := Lib.hid (And.intro hpj BND.out)
            clear hpj
            by_cases hqp : q ≤ p
            · have LE2 := Lib.hid (show decide ((q : Int) ≤ (p : Int)) = true from decide_eq_true (by omega))
              replace BND2 := Lib.hid (And.intro hqp BND2.out)
              by_cases hl2 : d2[a]! < d2[p]!
              · have LQ2 := Lib.hid (decide_eq_true hl2)
                have DNX := Lib.hid (show Go.Sort.scanDown (fun x => ltN d2[a]! x) d2 q (p - 1) = J2 by rw [← DN.out]; exact (dn_go (by have := BND2.out; omega) hqp (by simp only [ltN]; exact LQ2.out)).symm)
                clear DN hqp hl2
                go_upto_region 5 with fail
                refine wp_region_T (Φ := fun X => (NRow B X g n c d2 ∧ d2.size = n) ∧ Below B w X) (S := fun X => (NRow B X g n c d2 ∧ d2.size = n) ∧ Below B w X) (Lib.hid ⟨N.out, HB.out⟩) (fun X h => ⟨⟨h.1.1.below ((Below.refl _ _).drew), h.1.2⟩, h.2.drew⟩) (fun X h => h) (by kernel_rfl) ?_
                clear N HB
                intro wx TT S0
                have N := Lib.hid TT.out.1
                have HB := Lib.hid TT.out.2
                clear TT
                refine hm_run 0 46 (.int .i64 ((q : Nat) : Int)) rfl rfl (by kernel_rfl) (by kernel_rfl) (by kernel_rfl) (fun _ _ _ h => h) rfl (fun _ _ => rfl) S0.out ?_
                try simp only [Act.put, lqA, lqB, lqC, lqD, lqE, lqF]
                refine hm_run 1 47 (.int .i64 ((p : Nat) : Int)) rfl rfl (by kernel_rfl) (by kernel_rfl) (by kernel_rfl) (fun _ _ _ h => h) rfl (fun _ _ => rfl) S0.out ?_
                try simp only [Act.put, lqA, lqB, lqC, lqD, lqE, lqF]
                refine hm_run 2 48 (.bool true) rfl rfl (by kernel_rfl) (by kernel_rfl) (by kernel_rfl) (fun _ _ _ h => h) rfl (fun _ _ => exec_leqN rfl rfl rfl LE2.out) S0.out ?_
                try simp only [Act.put, lqA, lqB, lqC, lqD, lqE, lqF]
                refine hm_run 3 49 (.bool true) rfl rfl (by kernel_rfl) (by kernel_rfl) (by kernel_rfl) (fun _ _ _ h => h) rfl (fun _ _ => rfl) S0.out ?_
                try simp only [Act.put, lqA, lqB, lqC, lqD, lqE, lqF]
                refine hm_run 4 50 (.slice (some ⟨g, 0, none⟩) n c) rfl rfl (by kernel_rfl) (by kernel_rfl) (by kernel_rfl) (fun _ _ _ h => h) rfl (fun _ _ => rfl) S0.out ?_
                try simp only [Act.put, lqA, lqB, lqC, lqD, lqE, lqF]
                refine hm_run 5 51 (.int .i64 ((a : Nat) : Int)) rfl rfl (by kernel_rfl) (by kernel_rfl) (by kernel_rfl) (fun _ _ _ h => h) rfl (fun _ _ => rfl) S0.out ?_
                try simp only [Act.put, lqA, lqB, lqC, lqD, lqE, lqF]
                refine hm_run 6 52 (.pointer (some ⟨g, 0 + (a) * 1, none⟩)) rfl rfl (by kernel_rfl) (by kernel_rfl) (by kernel_rfl) (fun _ _ _ h => h) rfl (fun W _ => exec_ix rfl (run_ix (k := 1) (j := a) Tryd.underlying54 (by kernel_rfl) (by have := BND2.out; omega) rfl W)) S0.out ?_
                try simp only [Act.put, lqA, lqB, lqC, lqD, lqE, lqF]
                refine hm_run 7 53 (.int .u64 ((d2[a]! : Nat) : Int)) rfl rfl (by kernel_rfl) (by kernel_rfl) (by kernel_rfl) (fun _ _ _ h => h) rfl (fun W hW => exec_load rfl (run_load_one Tryd.underlying59 rfl (cell_dn (Lib.hid hW.1) (by have := BND2.out; omega)))) S0.out ?_
                try simp only [Act.put, lqA, lqB, lqC, lqD, lqE, lqF]
                refine hm_run 8 54 (.slice (some ⟨g, 0, none⟩) n c) rfl rfl (by kernel_rfl) (by kernel_rfl) (by kernel_rfl) (fun _ _ _ h => h) rfl (fun _ _ => rfl) S0.out ?_
                try simp only [Act.put, lqA, lqB, lqC, lqD, lqE, lqF]
                refine hm_run 9 55 (.int .i64 ((p : Nat) : Int)) rfl rfl (by kernel_rfl) (by kernel_rfl) (by kernel_rfl) (fun _ _ _ h => h) rfl (fun _ _ => rfl) S0.out ?_
                try simp only [Act.put, lqA, lqB, lqC, lqD, lqE, lqF]
                refine hm_run 10 56 (.pointer (some ⟨g, 0 + (p) * 1, none⟩)) rfl rfl (by kernel_rfl) (by kernel_rfl) (by kernel_rfl) (fun _ _ _ h => h) rfl (fun W _ => exec_ix rfl (run_ix (k := 1) (j := p) Tryd.underlying54 (by kernel_rfl) (by have := BND2.out; omega) rfl W)) S0.out ?_
                try simp only [Act.put, lqA, lqB, lqC, lqD, lqE, lqF]
                refine hm_run 11 57 (.int .u64 ((d2[p]! : Nat) : Int)) rfl rfl (by kernel_rfl) (by kernel_rfl) (by kernel_rfl) (fun _ _ _ h => h) rfl (fun W hW => exec_load rfl (run_load_one Tryd.underlying59 rfl (cell_dn (Lib.hid hW.1) (by have := BND2.out; omega)))) S0.out ?_
                try simp only [Act.put, lqA, lqB, lqC, lqD, lqE, lqF]
                refine hm_one (i := 12) (by kernel_rfl) ?_
                refine hm_step 12 rfl (by kernel_rfl) fun K hK => ?_
                try simp only [Act.put, lqA, lqB, lqC, lqD, lqE, lqF]
                go_simp
                go_at_call 58
                refine (less_any _ _ _).mono ?_
                rintro e w7 ⟨rfl, rfl⟩
                rw [LQ2.out]
                refine hK _ _ S0.out ?_
                clear hK K
                try simp only [Act.put, lqA, lqB, lqC, lqD, lqE, lqF]
                refine hm_run 13 59 (.bool true) rfl rfl (by kernel_rfl) (by kernel_rfl) (by kernel_rfl) (fun _ _ _ h => h) rfl (fun _ _ => rfl) S0.out ?_
                try simp only [Act.put, lqA, lqB, lqC, lqD, lqE, lqF]
                refine wpAnyH_done (by kernel_rfl) ?_ _
                go_wp2_with ((with_reducible refine wpList_at 61 rfl ?_); refine wpList_kn rfl (.int .i64 ((p - 1 : Nat) : Int)) (by exact exec_sub rfl rfl rfl (by have := BND2.out; rw [IntKind.wrap_i64]; omega)) ?_)
                go_roundg (p - 1)
                case measure => have := BND2.out; omega
                case rel => exact ⟨by have := BND2.out; omega, rfl, N, DNX, HB⟩
              · have LQ2 := Lib.hid (decide_eq_false hl2)
                obtain rfl : p = J2 := by rw [← DN.out]; exact (dn_stop (by simp only [ltN]; exact LQ2.out)).symm
                have GT := Lib.hid (show decide ((p : Int) < (q : Int)) = false from decide_eq_false (by omega))
                have INX := Lib.hid (show Go.Sort.partEqLoop ltN a (q + 1) (p - 1) (Go.Sort.swp d2 q p) = R by have h := OUT.out; rw [if_neg (by omega)] at h; exact h)
                clear DN hqp hl2
                go_upto_region 5 with fail
                refine wp_region_T (Φ := fun X => (NRow B X g n c d2 ∧ d2.size = n) ∧ Below B w X) (S := fun X => (NRow B X g n c d2 ∧ d2.size = n) ∧ Below B w X) (Lib.hid ⟨N.out, HB.out⟩) (fun X h => ⟨⟨h.1.1.below ((Below.refl _ _).drew), h.1.2⟩, h.2.drew⟩) (fun X h => h) (by kernel_rfl) ?_
                clear N HB
                intro wx TT S0
                have N := Lib.hid TT.out.1
                have HB := Lib.hid TT.out.2
                clear TT
                refine hm_run 0 46 (.int .i64 ((q : Nat) : Int)) rfl rfl (by kernel_rfl) (by kernel_rfl) (by kernel_rfl) (fun _ _ _ h => h) rfl (fun _ _ => rfl) S0.out ?_
                try simp only [Act.put, lqA, lqB, lqC, lqD, lqE, lqF]
                refine hm_run 1 47 (.int .i64 ((p : Nat) : Int)) rfl rfl (by kernel_rfl) (by kernel_rfl) (by kernel_rfl) (fun _ _ _ h => h) rfl (fun _ _ => rfl) S0.out ?_
                try simp only [Act.put, lqA, lqB, lqC, lqD, lqE, lqF]
                refine hm_run 2 48 (.bool true) rfl rfl (by kernel_rfl) (by kernel_rfl) (by kernel_rfl) (fun _ _ _ h => h) rfl (fun _ _ => exec_leqN rfl rfl rfl LE2.out) S0.out ?_
                try simp only [Act.put, lqA, lqB, lqC, lqD, lqE, lqF]
                refine hm_run 3 49 (.bool true) rfl rfl (by kernel_rfl) (by kernel_rfl) (by kernel_rfl) (fun _ _ _ h => h) rfl (fun _ _ => rfl) S0.out ?_
                try simp only [Act.put, lqA, lqB, lqC, lqD, lqE, lqF]
                refine hm_run 4 50 (.slice (some ⟨g, 0, none⟩) n c) rfl rfl (by kernel_rfl) (by kernel_rfl) (by kernel_rfl) (fun _ _ _ h => h) rfl (fun _ _ => rfl) S0.out ?_
                try simp only [Act.put, lqA, lqB, lqC, lqD, lqE, lqF]
                refine hm_run 5 51 (.int .i64 ((a : Nat) : Int)) rfl rfl (by kernel_rfl) (by kernel_rfl) (by kernel_rfl) (fun _ _ _ h => h) rfl (fun _ _ => rfl) S0.out ?_
                try simp only [Act.put, lqA, lqB, lqC, lqD, lqE, lqF]
                refine hm_run 6 52 (.pointer (some ⟨g, 0 + (a) * 1, none⟩)) rfl rfl (by kernel_rfl) (by kernel_rfl) (by kernel_rfl) (fun _ _ _ h => h) rfl (fun W _ => exec_ix rfl (run_ix (k := 1) (j := a) Tryd.underlying54 (by kernel_rfl) (by have := BND2.out; omega) rfl W)) S0.out ?_
                try simp only [Act.put, lqA, lqB, lqC, lqD, lqE, lqF]
                refine hm_run 7 53 (.int .u64 ((d2[a]! : Nat) : Int)) rfl rfl (by kernel_rfl) (by kernel_rfl) (by kernel_rfl) (fun _ _ _ h => h) rfl (fun W hW => exec_load rfl (run_load_one Tryd.underlying59 rfl (cell_dn (Lib.hid hW.1) (by have := BND2.out; omega)))) S0.out ?_
                try simp only [Act.put, lqA, lqB, lqC, lqD, lqE, lqF]
                refine hm_run 8 54 (.slice (some ⟨g, 0, none⟩) n c) rfl rfl (by kernel_rfl) (by kernel_rfl) (by kernel_rfl) (fun _ _ _ h => h) rfl (fun _ _ => rfl) S0.out ?_
                try simp only [Act.put, lqA, lqB, lqC, lqD, lqE, lqF]
                refine hm_run 9 55 (.int .i64 ((p : Nat) : Int)) rfl rfl (by kernel_rfl) (by kernel_rfl) (by kernel_rfl) (fun _ _ _ h => h) rfl (fun _ _ => rfl) S0.out ?_
                try simp only [Act.put, lqA, lqB, lqC, lqD, lqE, lqF]
                refine hm_run 10 56 (.pointer (some ⟨g, 0 + (p) * 1, none⟩)) rfl rfl (by kernel_rfl) (by kernel_rfl) (by kernel_rfl) (fun _ _ _ h => h) rfl (fun W _ => exec_ix rfl (run_ix (k := 1) (j := p) Tryd.underlying54 (by kernel_rfl) (by have := BND2.out; omega) rfl W)) S0.out ?_
                try simp only [Act.put, lqA, lqB, lqC, lqD, lqE, lqF]
                refine hm_run 11 57 (.int .u64 ((d2[p]! : Nat) : Int)) rfl rfl (by kernel_rfl) (by kernel_rfl) (by kernel_rfl) (fun _ _ _ h => h) rfl (fun W hW => exec_load rfl (run_load_one Tryd.underlying59 rfl (cell_dn (Lib.hid hW.1) (by have := BND2.out; omega)))) S0.out ?_
                try simp only [Act.put, lqA, lqB, lqC, lqD, lqE, lqF]
                refine hm_one (i := 12) (by kernel_rfl) ?_
                refine hm_step 12 rfl (by kernel_rfl) fun K hK => ?_
                try simp only [Act.put, lqA, lqB, lqC, lqD, lqE, lqF]
                go_simp
                go_at_call 58
                refine (less_any _ _ _).mono ?_
                rintro e w7 ⟨rfl, rfl⟩
                rw [LQ2.out]
                refine hK _ _ S0.out ?_
                clear hK K
                try simp only [Act.put, lqA, lqB, lqC, lqD, lqE, lqF]
                refine hm_run 13 59 (.bool false) rfl rfl (by kernel_rfl) (by kernel_rfl) (by kernel_rfl) (fun _ _ _ h => h) rfl (fun _ _ => rfl) S0.out ?_
                try simp only [Act.put, lqA, lqB, lqC, lqD, lqE, lqF]
                refine wpAnyH_done (by kernel_rfl) ?_ _
                go_upto_region 8 with ((with_reducible refine wpList_at 64 rfl ?_); refine wpList_kn rfl (.bool false) (by exact exec_gtrN rfl rfl rfl GT.out) ?_)
                refine wp_region_T (Φ := fun X => (NRow B X g n c d2 ∧ d2.size = n) ∧ Below B w X) (S := fun _ => True) (Lib.hid ⟨N.out, HB.out⟩) (fun X h => ⟨⟨h.1.1.below ((Below.refl _ _).drew), h.1.2⟩, h.2.drew⟩) (fun _ _ => trivial) (by kernel_rfl) ?_
                clear N HB
                intro wx TT S0
                have N := Lib.hid TT.out.1
                have HB := Lib.hid TT.out.2
                clear TT
                refine hm_run 0 65 (.slice (some ⟨g, 0, none⟩) n c) rfl rfl (by kernel_rfl) (by kernel_rfl) (by kernel_rfl) (fun _ _ _ h => h) rfl (fun _ _ => rfl) trivial ?_
                try simp only [Act.put, lqA, lqB, lqC, lqD, lqE, lqF]
                refine hm_run 1 66 (.int .i64 ((q : Nat) : Int)) rfl rfl (by kernel_rfl) (by kernel_rfl) (by kernel_rfl) (fun _ _ _ h => h) rfl (fun _ _ => rfl) trivial ?_
                try simp only [Act.put, lqA, lqB, lqC, lqD, lqE, lqF]
                refine hm_run 2 67 (.slice (some ⟨g, 0, none⟩) n c) rfl rfl (by kernel_rfl) (by kernel_rfl) (by kernel_rfl) (fun _ _ _ h => h) rfl (fun _ _ => rfl) trivial ?_
                try simp only [Act.put, lqA, lqB, lqC, lqD, lqE, lqF]
                refine hm_run 3 68 (.int .i64 ((p : Nat) : Int)) rfl rfl (by kernel_rfl) (by kernel_rfl) (by kernel_rfl) (fun _ _ _ h => h) rfl (fun _ _ => rfl) trivial ?_
                try simp only [Act.put, lqA, lqB, lqC, lqD, lqE, lqF]
                refine hm_run 4 69 (.slice (some ⟨g, 0, none⟩) n c) rfl rfl (by kernel_rfl) (by kernel_rfl) (by kernel_rfl) (fun _ _ _ h => h) rfl (fun _ _ => rfl) trivial ?_
                try simp only [Act.put, lqA, lqB, lqC, lqD, lqE, lqF]
                refine hm_run 5 70 (.int .i64 ((p : Nat) : Int)) rfl rfl (by kernel_rfl) (by kernel_rfl) (by kernel_rfl) (fun _ _ _ h => h) rfl (fun _ _ => rfl) trivial ?_
                try simp only [Act.put, lqA, lqB, lqC, lqD, lqE, lqF]
                refine hm_run 6 71 (.pointer (some ⟨g, 0 + (p) * 1, none⟩)) rfl rfl (by kernel_rfl) (by kernel_rfl) (by kernel_rfl) (fun _ _ _ h => h) rfl (fun W _ => exec_ix rfl (run_ix (k := 1) (j := p) Tryd.underlying54 (by kernel_rfl) (by have := BND2.out; omega) rfl W)) trivial ?_
                try simp only [Act.put, lqA, lqB, lqC, lqD, lqE, lqF]
                refine hm_run 8 73 (.slice (some ⟨g, 0, none⟩) n c) rfl rfl (by kernel_rfl) (by kernel_rfl) (by kernel_rfl) (fun _ _ _ h => h) rfl (fun _ _ => rfl) trivial ?_
                try simp only [Act.put, lqA, lqB, lqC, lqD, lqE, lqF]
                refine hm_run 9 74 (.int .i64 ((q : Nat) : Int)) rfl rfl (by kernel_rfl) (by kernel_rfl) (by kernel_rfl) (fun _ _ _ h => h) rfl (fun _ _ => rfl) trivial ?_
                try simp only [Act.put, lqA, lqB, lqC, lqD, lqE, lqF]
                refine hm_run 10 75 (.pointer (some ⟨g, 0 + (q) * 1, none⟩)) rfl rfl (by kernel_rfl) (by kernel_rfl) (by kernel_rfl) (fun _ _ _ h => h) rfl (fun W _ => exec_ix rfl (run_ix (k := 1) (j := q) Tryd.underlying54 (by kernel_rfl) (by have := BND2.out; omega) rfl W)) trivial ?_
                try simp only [Act.put, lqA, lqB, lqC, lqD, lqE, lqF]
                refine hm_two (i := 7) (j := 11) (by kernel_rfl) ?_ ?_
                · refine hm_step 7 rfl (by kernel_rfl) fun K hK => ?_
                  try simp only [Act.put, lqA, lqB, lqC, lqD, lqE, lqF]
                  refine mo_known (.int .u64 ((d2[p]! : Nat) : Int)) _ (exec_load rfl (run_load_one Tryd.underlying59 rfl (cell_dn N (by have := BND2.out; omega)))) ?_
                  refine hK _ _ trivial ?_
                  clear hK K
                  try simp only [Act.put, lqA, lqB, lqC, lqD, lqE, lqF]
                  refine hm_one (i := 11) (by kernel_rfl) ?_
                  refine hm_step 11 rfl (by kernel_rfl) fun K hK => ?_
                  try simp only [Act.put, lqA, lqB, lqC, lqD, lqE, lqF]
                  refine mo_known (.int .u64 ((d2[q]! : Nat) : Int)) _ (exec_load rfl (run_load_one Tryd.underlying59 rfl (cell_dn N (by have := BND2.out; omega)))) ?_
                  refine hK _ _ trivial ?_
                  clear hK K
                  try simp only [Act.put, lqA, lqB, lqC, lqD, lqE, lqF]
                  refine hm_run 12 77 (.pointer (some ⟨g, 0 + (q) * 1, none⟩)) rfl rfl (by kernel_rfl) (by kernel_rfl) (by kernel_rfl) (fun _ _ _ h => h) rfl (fun W _ => exec_ix rfl (run_ix (k := 1) (j := q) Tryd.underlying54 (by kernel_rfl) (by have := BND2.out; omega) rfl W)) trivial ?_
                  try simp only [Act.put, lqA, lqB, lqC, lqD, lqE, lqF]
                  refine hm_one (i := 13) (by kernel_rfl) ?_
                  refine hm_step 13 rfl (by kernel_rfl) fun K hK => ?_
                  try simp only [Act.put, lqA, lqB, lqC, lqD, lqE, lqF]
                  refine mo_vput (i := q) (v := d2[p]!) (.tmp 77) (.tmp 72) rfl N rfl rfl (by have := BND2.out; omega) ?_
                  clear N
                  intro w9 N hb9
                  replace HB := Lib.hid (HB.out.trans hb9.out)
                  clear hb9
                  refine hK _ _ trivial ?_
                  clear hK K
                  try simp only [Act.put, lqA, lqB, lqC, lqD, lqE, lqF]
                  refine hm_run 14 78 (.pointer (some ⟨g, 0 + (p) * 1, none⟩)) rfl rfl (by kernel_rfl) (by kernel_rfl) (by kernel_rfl) (fun _ _ _ h => h) rfl (fun W _ => exec_ix rfl (run_ix (k := 1) (j := p) Tryd.underlying54 (by kernel_rfl) (by have := BND2.out; omega) rfl W)) trivial ?_
                  try simp only [Act.put, lqA, lqB, lqC, lqD, lqE, lqF]
                  refine hm_one (i := 15) (by kernel_rfl) ?_
                  refine hm_step 15 rfl (by kernel_rfl) fun K hK => ?_
                  try simp only [Act.put, lqA, lqB, lqC, lqD, lqE, lqF]
                  refine mo_vput (i := p) (v := d2[q]!) (.tmp 78) (.tmp 76) rfl N rfl rfl (by have := BND2.out; omega) ?_
                  clear N
                  intro w9 N hb9
                  replace HB := Lib.hid (HB.out.trans hb9.out)
                  clear hb9
                  refine hK _ _ trivial ?_
                  clear hK K
                  try simp only [Act.put, lqA, lqB, lqC, lqD, lqE, lqF]
                  refine wpAnyH_done (by kernel_rfl) ?_ _
                  go_wp2_with (first | ((with_reducible refine wpList_at 80 rfl ?_); refine wpList_kn rfl (.int .i64 ((q + 1 : Nat) : Int)) (by exact exec_add rfl rfl rfl (by have := BND2.out; rw [IntKind.wrap_i64]; omega)) ?_) | ((with_reducible refine wpList_at 82 rfl ?_); refine wpList_kn rfl (.int .i64 ((p - 1 : Nat) : Int)) (by exact exec_sub rfl rfl rfl (by have := BND2.out; rw [IntKind.wrap_i64]; omega)) ?_))
                  go_roundg ((p - 1) + 1 - (q + 1))
                  case measure => have := BND2.out; have := KI.out; omega
                  case rel => exact ⟨q + 1, p - 1, ((d2.setIfInBounds (q) d2[p]!).setIfInBounds (p) d2[q]!), rfl, by have := BND2.out; omega, by have := BND2.out; omega, by have := BND2.out; omega, rfl, rfl, N, INX, HB⟩
                · refine hm_step 11 rfl (by kernel_rfl) fun K hK => ?_
                  try simp only [Act.put, lqA, lqB, lqC, lqD, lqE, lqF]
                  refine mo_known (.int .u64 ((d2[q]! : Nat) : Int)) _ (exec_load rfl (run_load_one Tryd.underlying59 rfl (cell_dn N (by have := BND2.out; omega)))) ?_
                  refine hK _ _ trivial ?_
                  clear hK K
                  try simp only [Act.put, lqA, lqB, lqC, lqD, lqE, lqF]
                  refine hm_one (i := 7) (by kernel_rfl) ?_
                  refine hm_step 7 rfl (by kernel_rfl) fun K hK => ?_
                  try simp only [Act.put, lqA, lqB, lqC, lqD, lqE, lqF]
                  refine mo_known (.int .u64 ((d2[p]! : Nat) : Int)) _ (exec_load rfl (run_load_one Tryd.underlying59 rfl (cell_dn N (by have := BND2.out; omega)))) ?_
                  refine hK _ _ trivial ?_
                  clear hK K
                  try simp only [Act.put, lqA, lqB, lqC, lqD, lqE, lqF]
                  refine hm_run 12 77 (.pointer (some ⟨g, 0 + (q) * 1, none⟩)) rfl rfl (by kernel_rfl) (by kernel_rfl) (by kernel_rfl) (fun _ _ _ h => h) rfl (fun W _ => exec_ix rfl (run_ix (k := 1) (j := q) Tryd.underlying54 (by kernel_rfl) (by have := BND2.out; omega) rfl W)) trivial ?_
                  try simp only [Act.put, lqA, lqB, lqC, lqD, lqE, lqF]
                  refine hm_one (i := 13) (by kernel_rfl) ?_
                  refine hm_step 13 rfl (by kernel_rfl) fun K hK => ?_
                  try simp only [Act.put, lqA, lqB, lqC, lqD, lqE, lqF]
                  refine mo_vput (i := q) (v := d2[p]!) (.tmp 77) (.tmp 72) rfl N rfl rfl (by have := BND2.out; omega) ?_
                  clear N
                  intro w9 N hb9
                  replace HB := Lib.hid (HB.out.trans hb9.out)
                  clear hb9
                  refine hK _ _ trivial ?_
                  clear hK K
                  try simp only [Act.put, lqA, lqB, lqC, lqD, lqE, lqF]
                  refine hm_run 14 78 (.pointer (some ⟨g, 0 + (p) * 1, none⟩)) rfl rfl (by kernel_rfl) (by kernel_rfl) (by kernel_rfl) (fun _ _ _ h => h) rfl (fun W _ => exec_ix rfl (run_ix (k := 1) (j := p) Tryd.underlying54 (by kernel_rfl) (by have := BND2.out; omega) rfl W)) trivial ?_
                  try simp only [Act.put, lqA, lqB, lqC, lqD, lqE, lqF]
                  refine hm_one (i := 15) (by kernel_rfl) ?_
                  refine hm_step 15 rfl (by kernel_rfl) fun K hK => ?_
                  try simp only [Act.put, lqA, lqB, lqC, lqD, lqE, lqF]
                  refine mo_vput (i := p) (v := d2[q]!) (.tmp 78) (.tmp 76) rfl N rfl rfl (by have := BND2.out; omega) ?_
                  clear N
                  intro w9 N hb9
                  replace HB := Lib.hid (HB.out.trans hb9.out)
                  clear hb9
                  refine hK _ _ trivial ?_
                  clear hK K
                  try simp only [Act.put, lqA, lqB, lqC, lqD, lqE, lqF]
                  refine wpAnyH_done (by kernel_rfl) ?_ _
                  go_wp2_with (first | ((with_reducible refine wpList_at 80 rfl ?_); refine wpList_kn rfl (.int .i64 ((q + 1 : Nat) : Int)) (by exact exec_add rfl rfl rfl (by have := BND2.out; rw [IntKind.wrap_i64]; omega)) ?_) | ((with_reducible refine wpList_at 82 rfl ?_); refine wpList_kn rfl (.int .i64 ((p - 1 : Nat) : Int)) (by exact exec_sub rfl rfl rfl (by have := BND2.out; rw [IntKind.wrap_i64]; omega)) ?_))
                  go_roundg ((p - 1) + 1 - (q + 1))
                  case measure => have := BND2.out; have := KI.out; omega
                  case rel => exact ⟨q + 1, p - 1, ((d2.setIfInBounds (q) d2[p]!).setIfInBounds (p) d2[q]!), rfl, by have := BND2.out; omega, by have := BND2.out; omega, by have := BND2.out; omega, rfl, rfl, N, INX, HB⟩
            · have LE2 := Lib.hid (show decide ((q : Int) ≤ (p : Int)) = false from decide_eq_false (by omega))
              obtain rfl : p = J2 := by rw [← DN.out]; exact (dn_off hqp).symm
              have GT := Lib.hid (show decide ((p : Int) < (q : Int)) = true from decide_eq_true (by omega))
              have RX := Lib.hid (show (q, d2) = R by have h := OUT.out; rw [if_pos (by omega)] at h; exact h)
              clear DN hqp OUT
              go_upto_region 5 with fail
              refine wp_region_T (Φ := fun X => (NRow B X g n c d2 ∧ d2.size = n) ∧ Below B w X) (S := fun X => (NRow B X g n c d2 ∧ d2.size = n) ∧ Below B w X) (Lib.hid ⟨N.out, HB.out⟩) (fun X h => ⟨⟨h.1.1.below ((Below.refl _ _).drew), h.1.2⟩, h.2.drew⟩) (fun X h => h) (by kernel_rfl) ?_
              clear N HB
              intro wx TT S0
              have N := Lib.hid TT.out.1
              have HB := Lib.hid TT.out.2
              clear TT
              refine hm_run 0 46 (.int .i64 ((q : Nat) : Int)) rfl rfl (by kernel_rfl) (by kernel_rfl) (by kernel_rfl) (fun _ _ _ h => h) rfl (fun _ _ => rfl) S0.out ?_
              try simp only [Act.put, lqA, lqB, lqC, lqD, lqE, lqF]
              refine hm_run 1 47 (.int .i64 ((p : Nat) : Int)) rfl rfl (by kernel_rfl) (by kernel_rfl) (by kernel_rfl) (fun _ _ _ h => h) rfl (fun _ _ => rfl) S0.out ?_
              try simp only [Act.put, lqA, lqB, lqC, lqD, lqE, lqF]
              refine hm_run 2 48 (.bool false) rfl rfl (by kernel_rfl) (by kernel_rfl) (by kernel_rfl) (fun _ _ _ h => h) rfl (fun _ _ => exec_leqN rfl rfl rfl LE2.out) S0.out ?_
              try simp only [Act.put, lqA, lqB, lqC, lqD, lqE, lqF]
              refine hm_run 3 49 (.bool false) rfl rfl (by kernel_rfl) (by kernel_rfl) (by kernel_rfl) (fun _ _ _ h => h) rfl (fun _ _ => rfl) S0.out ?_
              try simp only [Act.put, lqA, lqB, lqC, lqD, lqE, lqF]
              refine hm_off 4 50 rfl rfl (by kernel_rfl) (by kernel_rfl) (by kernel_rfl) (fun _ _ _ h => h) rfl S0.out ?_
              try simp only [Act.put, lqA, lqB, lqC, lqD, lqE, lqF]
              refine hm_off 5 51 rfl rfl (by kernel_rfl) (by kernel_rfl) (by kernel_rfl) (fun _ _ _ h => h) rfl S0.out ?_
              try simp only [Act.put, lqA, lqB, lqC, lqD, lqE, lqF]
              refine hm_off 6 52 rfl rfl (by kernel_rfl) (by kernel_rfl) (by kernel_rfl) (fun _ _ _ h => h) rfl S0.out ?_
              try simp only [Act.put, lqA, lqB, lqC, lqD, lqE, lqF]
              refine hm_off 7 53 rfl rfl (by kernel_rfl) (by kernel_rfl) (by kernel_rfl) (fun _ _ _ h => h) rfl S0.out ?_
              try simp only [Act.put, lqA, lqB, lqC, lqD, lqE, lqF]
              refine hm_off 8 54 rfl rfl (by kernel_rfl) (by kernel_rfl) (by kernel_rfl) (fun _ _ _ h => h) rfl S0.out ?_
              try simp only [Act.put, lqA, lqB, lqC, lqD, lqE, lqF]
              refine hm_off 9 55 rfl rfl (by kernel_rfl) (by kernel_rfl) (by kernel_rfl) (fun _ _ _ h => h) rfl S0.out ?_
              try simp only [Act.put, lqA, lqB, lqC, lqD, lqE, lqF]
              refine hm_off 10 56 rfl rfl (by kernel_rfl) (by kernel_rfl) (by kernel_rfl) (fun _ _ _ h => h) rfl S0.out ?_
              try simp only [Act.put, lqA, lqB, lqC, lqD, lqE, lqF]
              refine hm_off 11 57 rfl rfl (by kernel_rfl) (by kernel_rfl) (by kernel_rfl) (fun _ _ _ h => h) rfl S0.out ?_
              try simp only [Act.put, lqA, lqB, lqC, lqD, lqE, lqF]
              refine hm_off 12 58 rfl rfl (by kernel_rfl) (by kernel_rfl) (by kernel_rfl) (fun _ _ _ h => h) rfl S0.out ?_
              try simp only [Act.put, lqA, lqB, lqC, lqD, lqE, lqF]
              refine hm_run 13 59 (.bool false) rfl rfl (by kernel_rfl) (by kernel_rfl) (by kernel_rfl) (fun _ _ _ h => h) rfl (fun _ _ => rfl) S0.out ?_
              try simp only [Act.put, lqA, lqB, lqC, lqD, lqE, lqF]
              refine wpAnyH_done (by kernel_rfl) ?_ _
              go_wp2_with ((with_reducible refine wpList_at 64 rfl ?_); refine wpList_kn rfl (.bool true) (by exact exec_gtrN rfl rfl rfl GT.out) ?_)
              ((try simp only [Exit.inBlock, Exit.then]); refine bodyPost_ret (results_tmp rfl _ _ _) rfl ?_)
              exact ⟨by rw [← RX.out]; rfl, by rw [← RX.out]; exact N.out, HB.out⟩
end Go.Proofs.YtoopcmcmjaikhaaDoor
