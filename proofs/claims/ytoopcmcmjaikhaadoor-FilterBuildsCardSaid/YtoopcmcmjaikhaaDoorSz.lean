/- The sort of uint64: partition. -/
import Derived.Test.YtoopcmcmjaikhaaDoorSy
import Derived.Deep.CutBlock
set_option linter.unusedSimpArgs false
set_option linter.unusedVariables false
set_option maxRecDepth 100000
namespace Go.Proofs.YtoopcmcmjaikhaaDoor
open Go.RowKit Go.Lib

set_option maxHeartbeats 64000000 in
theorem part64_any {w : World} {B g n c a b pv : Nat} {d : Array Nat} (N : Hid (NRow B w g n c d ∧ d.size = n)) (hab : a < b) (hbn : b ≤ n) (hpv : pv < n) (hn : n ≤ 20000) : Calls Tryd.prog 106 #[.slice (some ⟨g, 0, none⟩) n c, .int .i64 (a : Int), .int .i64 (b : Int), .int .i64 (pv : Int)] w fun e w' => e = .returned (.tuple #[.int .i64 (((Go.Sort.partition ltN d a b pv).1 : Nat) : Int), .bool (Go.Sort.partition ltN d a b pv).2.1]) ∧ (NRow B w' g n c (Go.Sort.partition ltN d a b pv).2.2 ∧ (Go.Sort.partition ltN d a b pv).2.2.size = n) ∧ Below B w w' := by
  obtain ⟨R, hR⟩ : ∃ R, R = Go.Sort.partition ltN d a b pv := ⟨_, rfl⟩
  rw [← hR]
  obtain ⟨d2, hd2⟩ : ∃ d2, d2 = Go.Sort.swp d a pv := ⟨_, rfl⟩
  obtain ⟨i, hi⟩ : ∃ i, i = a + 1 := ⟨_, rfl⟩
  obtain ⟨j, hj⟩ : ∃ j, j = b - 1 := ⟨_, rfl⟩
  obtain ⟨I2, hI2⟩ : ∃ I2, I2 = Go.Sort.scanUp (fun x => ltN x d2[a]!) d2 j i := ⟨_, rfl⟩
  obtain ⟨J2, hJ2⟩ : ∃ J2, J2 = Go.Sort.scanDown (fun x => !ltN x d2[a]!) d2 I2 j := ⟨_, rfl⟩
  have OUT := Lib.hid (show (if I2 > J2 then (J2, true, Go.Sort.swp d2 J2 a) else ((Go.Sort.partLoop ltN a (I2 + 1) (J2 - 1) (Go.Sort.swp d2 I2 J2)).1, false, Go.Sort.swp (Go.Sort.partLoop ltN a (I2 + 1) (J2 - 1) (Go.Sort.swp d2 I2 J2)).2 (Go.Sort.partLoop ltN a (I2 + 1) (J2 - 1) (Go.Sort.swp d2 I2 J2)).1 a)) = R by rw [hR, hJ2, hI2, hi, hj, hd2]; rfl)
  have UP := Lib.hid hI2.symm
  have DN := Lib.hid hJ2.symm
  have HD2 := Lib.hid hd2
  have BI := Lib.hid (show a < b ∧ b ≤ n ∧ pv < n ∧ n ≤ 20000 ∧ i = a + 1 ∧ j = b - 1 from ⟨hab, hbn, hpv, hn, hi, hj⟩)
  have B1 := Lib.hid (show a < i ∧ i ≤ n + 1 ∧ j < b ∧ a < b ∧ b ≤ n ∧ n ≤ 20000 by omega)
  have HB := Lib.hid (Below.refl B w)
  clear hab hbn hpv hn hR hd2 hi hj hI2 hJ2
  go_enter Tryd.func106, Tryd.ntmps106
  go_upto_region 1 with fail
  try simp only [Act.put, lqA, lqB, lqC, lqD, lqE, lqF]
  go_cut [8] (fun s8 wx => s8 = .int .i64 0 ∧ Hid (NRow B wx g n c d2 ∧ d2.size = n) ∧ Hid (Below B w wx))
  case first =>
    refine wp_region_T (Φ := fun X => (NRow B X g n c d ∧ d.size = n) ∧ Below B w X) (S := fun _ => True) (Lib.hid ⟨N.out, HB.out⟩) (fun X h => ⟨⟨h.1.1.below ((Below.refl _ _).drew), h.1.2⟩, h.2.drew⟩) (fun _ _ => trivial) (by kernel_rfl) ?_
    clear N HB
    intro wx TT S0
    have N := Lib.hid TT.out.1
    have HB := Lib.hid TT.out.2
    clear TT
    refine hm_run 0 12 (.slice (some ⟨g, 0, none⟩) n c) rfl rfl (by kernel_rfl) (by kernel_rfl) (by kernel_rfl) (fun _ _ _ h => h) rfl (fun _ _ => rfl) trivial ?_
    try simp only [Act.put, lqA, lqB, lqC, lqD, lqE, lqF]
    refine hm_run 1 13 (.int .i64 ((a : Nat) : Int)) rfl rfl (by kernel_rfl) (by kernel_rfl) (by kernel_rfl) (fun _ _ _ h => h) rfl (fun _ _ => rfl) trivial ?_
    try simp only [Act.put, lqA, lqB, lqC, lqD, lqE, lqF]
    refine hm_run 2 14 (.slice (some ⟨g, 0, none⟩) n c) rfl rfl (by kernel_rfl) (by kernel_rfl) (by kernel_rfl) (fun _ _ _ h => h) rfl (fun _ _ => rfl) trivial ?_
    try simp only [Act.put, lqA, lqB, lqC, lqD, lqE, lqF]
    refine hm_run 3 15 (.int .i64 ((pv : Nat) : Int)) rfl rfl (by kernel_rfl) (by kernel_rfl) (by kernel_rfl) (fun _ _ _ h => h) rfl (fun _ _ => rfl) trivial ?_
    try simp only [Act.put, lqA, lqB, lqC, lqD, lqE, lqF]
    refine hm_run 4 16 (.slice (some ⟨g, 0, none⟩) n c) rfl rfl (by kernel_rfl) (by kernel_rfl) (by kernel_rfl) (fun _ _ _ h => h) rfl (fun _ _ => rfl) trivial ?_
    try simp only [Act.put, lqA, lqB, lqC, lqD, lqE, lqF]
    refine hm_run 5 17 (.int .i64 ((pv : Nat) : Int)) rfl rfl (by kernel_rfl) (by kernel_rfl) (by kernel_rfl) (fun _ _ _ h => h) rfl (fun _ _ => rfl) trivial ?_
    try simp only [Act.put, lqA, lqB, lqC, lqD, lqE, lqF]
    refine hm_run 6 18 (.pointer (some ⟨g, 0 + (pv) * 1, none⟩)) rfl rfl (by kernel_rfl) (by kernel_rfl) (by kernel_rfl) (fun _ _ _ h => h) rfl (fun W _ => exec_ix rfl (run_ix (k := 1) (j := pv) Tryd.underlying54 (by kernel_rfl) (by have := BI.out; omega) rfl W)) trivial ?_
    try simp only [Act.put, lqA, lqB, lqC, lqD, lqE, lqF]
    refine hm_run 8 20 (.slice (some ⟨g, 0, none⟩) n c) rfl rfl (by kernel_rfl) (by kernel_rfl) (by kernel_rfl) (fun _ _ _ h => h) rfl (fun _ _ => rfl) trivial ?_
    try simp only [Act.put, lqA, lqB, lqC, lqD, lqE, lqF]
    refine hm_run 9 21 (.int .i64 ((a : Nat) : Int)) rfl rfl (by kernel_rfl) (by kernel_rfl) (by kernel_rfl) (fun _ _ _ h => h) rfl (fun _ _ => rfl) trivial ?_
    try simp only [Act.put, lqA, lqB, lqC, lqD, lqE, lqF]
    refine hm_run 10 22 (.pointer (some ⟨g, 0 + (a) * 1, none⟩)) rfl rfl (by kernel_rfl) (by kernel_rfl) (by kernel_rfl) (fun _ _ _ h => h) rfl (fun W _ => exec_ix rfl (run_ix (k := 1) (j := a) Tryd.underlying54 (by kernel_rfl) (by have := BI.out; omega) rfl W)) trivial ?_
    try simp only [Act.put, lqA, lqB, lqC, lqD, lqE, lqF]
    refine hm_two (i := 7) (j := 11) (by kernel_rfl) ?_ ?_
    · refine hm_step 7 rfl (by kernel_rfl) fun K hK => ?_
      try simp only [Act.put, lqA, lqB, lqC, lqD, lqE, lqF]
      refine mo_known (.int .u64 ((d[pv]! : Nat) : Int)) _ (exec_load rfl (run_load_one Tryd.underlying59 rfl (cell_dn N (by have := BI.out; omega)))) ?_
      refine hK _ _ trivial ?_
      clear hK K
      try simp only [Act.put, lqA, lqB, lqC, lqD, lqE, lqF]
      refine hm_one (i := 11) (by kernel_rfl) ?_
      refine hm_step 11 rfl (by kernel_rfl) fun K hK => ?_
      try simp only [Act.put, lqA, lqB, lqC, lqD, lqE, lqF]
      refine mo_known (.int .u64 ((d[a]! : Nat) : Int)) _ (exec_load rfl (run_load_one Tryd.underlying59 rfl (cell_dn N (by have := BI.out; omega)))) ?_
      refine hK _ _ trivial ?_
      clear hK K
      try simp only [Act.put, lqA, lqB, lqC, lqD, lqE, lqF]
      refine hm_run 12 24 (.pointer (some ⟨g, 0 + (a) * 1, none⟩)) rfl rfl (by kernel_rfl) (by kernel_rfl) (by kernel_rfl) (fun _ _ _ h => h) rfl (fun W _ => exec_ix rfl (run_ix (k := 1) (j := a) Tryd.underlying54 (by kernel_rfl) (by have := BI.out; omega) rfl W)) trivial ?_
      try simp only [Act.put, lqA, lqB, lqC, lqD, lqE, lqF]
      refine hm_one (i := 13) (by kernel_rfl) ?_
      refine hm_step 13 rfl (by kernel_rfl) fun K hK => ?_
      try simp only [Act.put, lqA, lqB, lqC, lqD, lqE, lqF]
      refine mo_vput (i := a) (v := d[pv]!) (.tmp 24) (.tmp 19) rfl N rfl rfl (by have := BI.out; omega) ?_
      clear N
      intro w9 N hb9
      replace HB := Lib.hid (HB.out.trans hb9.out)
      clear hb9
      refine hK _ _ trivial ?_
      clear hK K
      try simp only [Act.put, lqA, lqB, lqC, lqD, lqE, lqF]
      refine hm_run 14 25 (.pointer (some ⟨g, 0 + (pv) * 1, none⟩)) rfl rfl (by kernel_rfl) (by kernel_rfl) (by kernel_rfl) (fun _ _ _ h => h) rfl (fun W _ => exec_ix rfl (run_ix (k := 1) (j := pv) Tryd.underlying54 (by kernel_rfl) (by have := BI.out; omega) rfl W)) trivial ?_
      try simp only [Act.put, lqA, lqB, lqC, lqD, lqE, lqF]
      refine hm_one (i := 15) (by kernel_rfl) ?_
      refine hm_step 15 rfl (by kernel_rfl) fun K hK => ?_
      try simp only [Act.put, lqA, lqB, lqC, lqD, lqE, lqF]
      refine mo_vput (i := pv) (v := d[a]!) (.tmp 25) (.tmp 23) rfl N rfl rfl (by have := BI.out; omega) ?_
      clear N
      intro w9 N hb9
      replace HB := Lib.hid (HB.out.trans hb9.out)
      clear hb9
      refine hK _ _ trivial ?_
      clear hK K
      try simp only [Act.put, lqA, lqB, lqC, lqD, lqE, lqF]
      refine wpAnyH_done (by kernel_rfl) ?_ _
      go_wp2_with fail
      go_meet
      exact ⟨rfl, by rw [HD2.out]; exact N, HB⟩
    · refine hm_step 11 rfl (by kernel_rfl) fun K hK => ?_
      try simp only [Act.put, lqA, lqB, lqC, lqD, lqE, lqF]
      refine mo_known (.int .u64 ((d[a]! : Nat) : Int)) _ (exec_load rfl (run_load_one Tryd.underlying59 rfl (cell_dn N (by have := BI.out; omega)))) ?_
      refine hK _ _ trivial ?_
      clear hK K
      try simp only [Act.put, lqA, lqB, lqC, lqD, lqE, lqF]
      refine hm_one (i := 7) (by kernel_rfl) ?_
      refine hm_step 7 rfl (by kernel_rfl) fun K hK => ?_
      try simp only [Act.put, lqA, lqB, lqC, lqD, lqE, lqF]
      refine mo_known (.int .u64 ((d[pv]! : Nat) : Int)) _ (exec_load rfl (run_load_one Tryd.underlying59 rfl (cell_dn N (by have := BI.out; omega)))) ?_
      refine hK _ _ trivial ?_
      clear hK K
      try simp only [Act.put, lqA, lqB, lqC, lqD, lqE, lqF]
      refine hm_run 12 24 (.pointer (some ⟨g, 0 + (a) * 1, none⟩)) rfl rfl (by kernel_rfl) (by kernel_rfl) (by kernel_rfl) (fun _ _ _ h => h) rfl (fun W _ => exec_ix rfl (run_ix (k := 1) (j := a) Tryd.underlying54 (by kernel_rfl) (by have := BI.out; omega) rfl W)) trivial ?_
      try simp only [Act.put, lqA, lqB, lqC, lqD, lqE, lqF]
      refine hm_one (i := 13) (by kernel_rfl) ?_
      refine hm_step 13 rfl (by kernel_rfl) fun K hK => ?_
      try simp only [Act.put, lqA, lqB, lqC, lqD, lqE, lqF]
      refine mo_vput (i := a) (v := d[pv]!) (.tmp 24) (.tmp 19) rfl N rfl rfl (by have := BI.out; omega) ?_
      clear N
      intro w9 N hb9
      replace HB := Lib.hid (HB.out.trans hb9.out)
      clear hb9
      refine hK _ _ trivial ?_
      clear hK K
      try simp only [Act.put, lqA, lqB, lqC, lqD, lqE, lqF]
      refine hm_run 14 25 (.pointer (some ⟨g, 0 + (pv) * 1, none⟩)) rfl rfl (by kernel_rfl) (by kernel_rfl) (by kernel_rfl) (fun _ _ _ h => h) rfl (fun W _ => exec_ix rfl (run_ix (k := 1) (j := pv) Tryd.underlying54 (by kernel_rfl) (by have := BI.out; omega) rfl W)) trivial ?_
      try simp only [Act.put, lqA, lqB, lqC, lqD, lqE, lqF]
      refine hm_one (i := 15) (by kernel_rfl) ?_
      refine hm_step 15 rfl (by kernel_rfl) fun K hK => ?_
      try simp only [Act.put, lqA, lqB, lqC, lqD, lqE, lqF]
      refine mo_vput (i := pv) (v := d[a]!) (.tmp 25) (.tmp 23) rfl N rfl rfl (by have := BI.out; omega) ?_
      clear N
      intro w9 N hb9
      replace HB := Lib.hid (HB.out.trans hb9.out)
      clear hb9
      refine hK _ _ trivial ?_
      clear hK K
      try simp only [Act.put, lqA, lqB, lqC, lqD, lqE, lqF]
      refine wpAnyH_done (by kernel_rfl) ?_ _
      go_wp2_with fail
      go_meet
      exact ⟨rfl, by rw [HD2.out]; exact N, HB⟩
  case rest =>
    obtain ⟨rfl, N, HB⟩ := hcut
    clear HD2
    go_upto_block 0 with (first | ((with_reducible refine wpList_at 27 rfl ?_); refine wpList_kn rfl (.int .i64 (i : Int)) (by exact exec_add rfl rfl rfl (by have := BI.out; rw [IntKind.wrap_i64]; omega)) ?_) | ((with_reducible refine wpList_at 29 rfl ?_); refine wpList_kn rfl (.int .i64 (j : Int)) (by exact exec_sub rfl rfl rfl (by have := BI.out; rw [IntKind.wrap_i64]; omega)) ?_))
    try simp only [Act.put, lqA, lqB, lqC, lqD, lqE, lqF]
    go_cut [10] (fun s10 wx => s10 = .int .i64 (I2 : Int) ∧ a < I2 ∧ I2 ≤ n + 1 ∧ Hid (NRow B wx g n c d2 ∧ d2.size = n) ∧ Hid (Below B w wx))
    case first =>
      go_wp2_with fail
      go_loopg [10] (j + 1 - i) (fun k s10 wr => ∃ q : Nat, j + 1 - q = k ∧ i ≤ q ∧ q ≤ n + 1 ∧ s10 = .int .i64 (q : Int) ∧ Hid (NRow B wr g n c d2 ∧ d2.size = n) ∧ Hid (Go.Sort.scanUp (fun x => ltN x d2[a]!) d2 j q = I2) ∧ Hid (Below B w wr))
      case atStart => exact ⟨i, rfl, Nat.le_refl _, by have := B1.out; omega, rfl, N, UP, HB⟩
      case round =>
        clear N UP HB
        obtain ⟨q, hk, hiq, hqn, rfl, N, UP, HB⟩ := hrel
        obtain ⟨D2, hD2⟩ : ∃ D, D = wr := ⟨_, rfl⟩
        subst hD2
        have KQ := Lib.hid hk
        have BND := Lib.hid (show i ≤ q ∧ q ≤ n + 1 ∧ a < i ∧ j < b ∧ a < b ∧ b ≤ n ∧ n ≤ 20000 by have := B1.out; omega)
        clear hk hiq hqn
        by_cases hqj : q ≤ j
        · have LE := Lib.hid (show decide ((q : Int) ≤ (j : Int)) = true from decide_eq_true (by omega))
          replace BND := Lib.hid (And.intro hqj BND.out)
          by_cases hl : d2[q]! < d2[a]!
          · have LQ := Lib.hid (decide_eq_true hl)
            have UPX := Lib.hid (show Go.Sort.scanUp (fun x => ltN x d2[a]!) d2 j (q + 1) = I2 by rw [← UP.out]; exact (up_go hqj (by simp only [ltN]; exact LQ.out)).symm)
            clear UP hqj hl
            go_upto_region 3 with fail
            refine wp_region_T (Φ := fun X => (NRow B X g n c d2 ∧ d2.size = n) ∧ Below B w X) (S := fun X => (NRow B X g n c d2 ∧ d2.size = n) ∧ Below B w X) (Lib.hid ⟨N.out, HB.out⟩) (fun X h => ⟨⟨h.1.1.below ((Below.refl _ _).drew), h.1.2⟩, h.2.drew⟩) (fun X h => h) (by kernel_rfl) ?_
            clear N HB
            intro wx TT S0
            have N := Lib.hid TT.out.1
            have HB := Lib.hid TT.out.2
            clear TT
            refine hm_run 0 30 (.int .i64 ((q : Nat) : Int)) rfl rfl (by kernel_rfl) (by kernel_rfl) (by kernel_rfl) (fun _ _ _ h => h) rfl (fun _ _ => rfl) S0.out ?_
            try simp only [Act.put, lqA, lqB, lqC, lqD, lqE, lqF]
            refine hm_run 1 31 (.int .i64 ((j : Nat) : Int)) rfl rfl (by kernel_rfl) (by kernel_rfl) (by kernel_rfl) (fun _ _ _ h => h) rfl (fun _ _ => rfl) S0.out ?_
            try simp only [Act.put, lqA, lqB, lqC, lqD, lqE, lqF]
            refine hm_run 2 32 (.bool true) rfl rfl (by kernel_rfl) (by kernel_rfl) (by kernel_rfl) (fun _ _ _ h => h) rfl (fun _ _ => exec_leqN rfl rfl rfl LE.out) S0.out ?_
            try simp only [Act.put, lqA, lqB, lqC, lqD, lqE, lqF]
            refine hm_run 3 33 (.bool true) rfl rfl (by kernel_rfl) (by kernel_rfl) (by kernel_rfl) (fun _ _ _ h => h) rfl (fun _ _ => rfl) S0.out ?_
            try simp only [Act.put, lqA, lqB, lqC, lqD, lqE, lqF]
            refine hm_run 4 34 (.slice (some ⟨g, 0, none⟩) n c) rfl rfl (by kernel_rfl) (by kernel_rfl) (by kernel_rfl) (fun _ _ _ h => h) rfl (fun _ _ => rfl) S0.out ?_
            try simp only [Act.put, lqA, lqB, lqC, lqD, lqE, lqF]
            refine hm_run 5 35 (.int .i64 ((q : Nat) : Int)) rfl rfl (by kernel_rfl) (by kernel_rfl) (by kernel_rfl) (fun _ _ _ h => h) rfl (fun _ _ => rfl) S0.out ?_
            try simp only [Act.put, lqA, lqB, lqC, lqD, lqE, lqF]
            refine hm_run 6 36 (.pointer (some ⟨g, 0 + (q) * 1, none⟩)) rfl rfl (by kernel_rfl) (by kernel_rfl) (by kernel_rfl) (fun _ _ _ h => h) rfl (fun W _ => exec_ix rfl (run_ix (k := 1) (j := q) Tryd.underlying54 (by kernel_rfl) (by have := BND.out; omega) rfl W)) S0.out ?_
            try simp only [Act.put, lqA, lqB, lqC, lqD, lqE, lqF]
            refine hm_run 7 37 (.int .u64 ((d2[q]! : Nat) : Int)) rfl rfl (by kernel_rfl) (by kernel_rfl) (by kernel_rfl) (fun _ _ _ h => h) rfl (fun W hW => exec_load rfl (run_load_one Tryd.underlying59 rfl (cell_dn (Lib.hid hW.1) (by have := BND.out; omega)))) S0.out ?_
            try simp only [Act.put, lqA, lqB, lqC, lqD, lqE, lqF]
            refine hm_run 8 38 (.slice (some ⟨g, 0, none⟩) n c) rfl rfl (by kernel_rfl) (by kernel_rfl) (by kernel_rfl) (fun _ _ _ h => h) rfl (fun _ _ => rfl) S0.out ?_
            try simp only [Act.put, lqA, lqB, lqC, lqD, lqE, lqF]
            refine hm_run 9 39 (.int .i64 ((a : Nat) : Int)) rfl rfl (by kernel_rfl) (by kernel_rfl) (by kernel_rfl) (fun _ _ _ h => h) rfl (fun _ _ => rfl) S0.out ?_
            try simp only [Act.put, lqA, lqB, lqC, lqD, lqE, lqF]
            refine hm_run 10 40 (.pointer (some ⟨g, 0 + (a) * 1, none⟩)) rfl rfl (by kernel_rfl) (by kernel_rfl) (by kernel_rfl) (fun _ _ _ h => h) rfl (fun W _ => exec_ix rfl (run_ix (k := 1) (j := a) Tryd.underlying54 (by kernel_rfl) (by have := BND.out; omega) rfl W)) S0.out ?_
            try simp only [Act.put, lqA, lqB, lqC, lqD, lqE, lqF]
            refine hm_run 11 41 (.int .u64 ((d2[a]! : Nat) : Int)) rfl rfl (by kernel_rfl) (by kernel_rfl) (by kernel_rfl) (fun _ _ _ h => h) rfl (fun W hW => exec_load rfl (run_load_one Tryd.underlying59 rfl (cell_dn (Lib.hid hW.1) (by have := BND.out; omega)))) S0.out ?_
            try simp only [Act.put, lqA, lqB, lqC, lqD, lqE, lqF]
            refine hm_one (i := 12) (by kernel_rfl) ?_
            refine hm_step 12 rfl (by kernel_rfl) fun K hK => ?_
            try simp only [Act.put, lqA, lqB, lqC, lqD, lqE, lqF]
            go_simp
            go_at_call 58
            refine (less_any _ _ _).mono ?_
            rintro e w7 ⟨rfl, rfl⟩
            rw [LQ.out]
            refine hK _ _ S0.out ?_
            clear hK K
            try simp only [Act.put, lqA, lqB, lqC, lqD, lqE, lqF]
            refine hm_run 13 43 (.bool true) rfl rfl (by kernel_rfl) (by kernel_rfl) (by kernel_rfl) (fun _ _ _ h => h) rfl (fun _ _ => rfl) S0.out ?_
            try simp only [Act.put, lqA, lqB, lqC, lqD, lqE, lqF]
            refine wpAnyH_done (by kernel_rfl) ?_ _
            go_wp2_with ((with_reducible refine wpList_at 45 rfl ?_); refine wpList_kn rfl (.int .i64 ((q + 1 : Nat) : Int)) (by exact exec_add rfl rfl rfl (by have := BND.out; rw [IntKind.wrap_i64]; omega)) ?_)
            go_roundg (j + 1 - (q + 1))
            case measure => have := BND.out; have := KQ.out; omega
            case rel => exact ⟨q + 1, rfl, by have := BND.out; omega, by have := BND.out; omega, rfl, N, UPX, HB⟩
          · have LQ := Lib.hid (decide_eq_false hl)
            obtain rfl : q = I2 := by rw [← UP.out]; exact (up_stop (by simp only [ltN]; exact LQ.out)).symm
            clear UP hqj hl
            go_upto_region 3 with fail
            refine wp_region_T (Φ := fun X => (NRow B X g n c d2 ∧ d2.size = n) ∧ Below B w X) (S := fun X => (NRow B X g n c d2 ∧ d2.size = n) ∧ Below B w X) (Lib.hid ⟨N.out, HB.out⟩) (fun X h => ⟨⟨h.1.1.below ((Below.refl _ _).drew), h.1.2⟩, h.2.drew⟩) (fun X h => h) (by kernel_rfl) ?_
            clear N HB
            intro wx TT S0
            have N := Lib.hid TT.out.1
            have HB := Lib.hid TT.out.2
            clear TT
            refine hm_run 0 30 (.int .i64 ((q : Nat) : Int)) rfl rfl (by kernel_rfl) (by kernel_rfl) (by kernel_rfl) (fun _ _ _ h => h) rfl (fun _ _ => rfl) S0.out ?_
            try simp only [Act.put, lqA, lqB, lqC, lqD, lqE, lqF]
            refine hm_run 1 31 (.int .i64 ((j : Nat) : Int)) rfl rfl (by kernel_rfl) (by kernel_rfl) (by kernel_rfl) (fun _ _ _ h => h) rfl (fun _ _ => rfl) S0.out ?_
            try simp only [Act.put, lqA, lqB, lqC, lqD, lqE, lqF]
            refine hm_run 2 32 (.bool true) rfl rfl (by kernel_rfl) (by kernel_rfl) (by kernel_rfl) (fun _ _ _ h => h) rfl (fun _ _ => exec_leqN rfl rfl rfl LE.out) S0.out ?_
            try simp only [Act.put, lqA, lqB, lqC, lqD, lqE, lqF]
            refine hm_run 3 33 (.bool true) rfl rfl (by kernel_rfl) (by kernel_rfl) (by kernel_rfl) (fun _ _ _ h => h) rfl (fun _ _ => rfl) S0.out ?_
            try simp only [Act.put, lqA, lqB, lqC, lqD, lqE, lqF]
            refine hm_run 4 34 (.slice (some ⟨g, 0, none⟩) n c) rfl rfl (by kernel_rfl) (by kernel_rfl) (by kernel_rfl) (fun _ _ _ h => h) rfl (fun _ _ => rfl) S0.out ?_
            try simp only [Act.put, lqA, lqB, lqC, lqD, lqE, lqF]
            refine hm_run 5 35 (.int .i64 ((q : Nat) : Int)) rfl rfl (by kernel_rfl) (by kernel_rfl) (by kernel_rfl) (fun _ _ _ h => h) rfl (fun _ _ => rfl) S0.out ?_
            try simp only [Act.put, lqA, lqB, lqC, lqD, lqE, lqF]
            refine hm_run 6 36 (.pointer (some ⟨g, 0 + (q) * 1, none⟩)) rfl rfl (by kernel_rfl) (by kernel_rfl) (by kernel_rfl) (fun _ _ _ h => h) rfl (fun W _ => exec_ix rfl (run_ix (k := 1) (j := q) Tryd.underlying54 (by kernel_rfl) (by have := BND.out; omega) rfl W)) S0.out ?_
            try simp only [Act.put, lqA, lqB, lqC, lqD, lqE, lqF]
            refine hm_run 7 37 (.int .u64 ((d2[q]! : Nat) : Int)) rfl rfl (by kernel_rfl) (by kernel_rfl) (by kernel_rfl) (fun _ _ _ h => h) rfl (fun W hW => exec_load rfl (run_load_one Tryd.underlying59 rfl (cell_dn (Lib.hid hW.1) (by have := BND.out; omega)))) S0.out ?_
            try simp only [Act.put, lqA, lqB, lqC, lqD, lqE, lqF]
            refine hm_run 8 38 (.slice (some ⟨g, 0, none⟩) n c) rfl rfl (by kernel_rfl) (by kernel_rfl) (by kernel_rfl) (fun _ _ _ h => h) rfl (fun _ _ => rfl) S0.out ?_
            try simp only [Act.put, lqA, lqB, lqC, lqD, lqE, lqF]
            refine hm_run 9 39 (.int .i64 ((a : Nat) : Int)) rfl rfl (by kernel_rfl) (by kernel_rfl) (by kernel_rfl) (fun _ _ _ h => h) rfl (fun _ _ => rfl) S0.out ?_
            try simp only [Act.put, lqA, lqB, lqC, lqD, lqE, lqF]
            refine hm_run 10 40 (.pointer (some ⟨g, 0 + (a) * 1, none⟩)) rfl rfl (by kernel_rfl) (by kernel_rfl) (by kernel_rfl) (fun _ _ _ h => h) rfl (fun W _ => exec_ix rfl (run_ix (k := 1) (j := a) Tryd.underlying54 (by kernel_rfl) (by have := BND.out; omega) rfl W)) S0.out ?_
            try simp only [Act.put, lqA, lqB, lqC, lqD, lqE, lqF]
            refine hm_run 11 41 (.int .u64 ((d2[a]! : Nat) : Int)) rfl rfl (by kernel_rfl) (by kernel_rfl) (by kernel_rfl) (fun _ _ _ h => h) rfl (fun W hW => exec_load rfl (run_load_one Tryd.underlying59 rfl (cell_dn (Lib.hid hW.1) (by have := BND.out; omega)))) S0.out ?_
            try simp only [Act.put, lqA, lqB, lqC, lqD, lqE, lqF]
            refine hm_one (i := 12) (by kernel_rfl) ?_
            refine hm_step 12 rfl (by kernel_rfl) fun K hK => ?_
            try simp only [Act.put, lqA, lqB, lqC, lqD, lqE, lqF]
            go_simp
            go_at_call 58
            refine (less_any _ _ _).mono ?_
            rintro e w7 ⟨rfl, rfl⟩
            rw [LQ.out]
            refine hK _ _ S0.out ?_
            clear hK K
            try simp only [Act.put, lqA, lqB, lqC, lqD, lqE, lqF]
            refine hm_run 13 43 (.bool false) rfl rfl (by kernel_rfl) (by kernel_rfl) (by kernel_rfl) (fun _ _ _ h => h) rfl (fun _ _ => rfl) S0.out ?_
            try simp only [Act.put, lqA, lqB, lqC, lqD, lqE, lqF]
            refine wpAnyH_done (by kernel_rfl) ?_ _
            go_wp2_with fail
            go_meet
            exact ⟨rfl, by have := BND.out; omega, by have := BND.out; omega, N, HB⟩
        · have LE := Lib.hid (show decide ((q : Int) ≤ (j : Int)) = false from decide_eq_false (by omega))
          obtain rfl : q = I2 := by rw [← UP.out]; exact (up_off hqj).symm
          clear UP hqj
          go_upto_region 3 with fail
          refine wp_region_T (Φ := fun X => (NRow B X g n c d2 ∧ d2.size = n) ∧ Below B w X) (S := fun X => (NRow B X g n c d2 ∧ d2.size = n) ∧ Below B w X) (Lib.hid ⟨N.out, HB.out⟩) (fun X h => ⟨⟨h.1.1.below ((Below.refl _ _).drew), h.1.2⟩, h.2.drew⟩) (fun X h => h) (by kernel_rfl) ?_
          clear N HB
          intro wx TT S0
          have N := Lib.hid TT.out.1
          have HB := Lib.hid TT.out.2
          clear TT
          refine hm_run 0 30 (.int .i64 ((q : Nat) : Int)) rfl rfl (by kernel_rfl) (by kernel_rfl) (by kernel_rfl) (fun _ _ _ h => h) rfl (fun _ _ => rfl) S0.out ?_
          try simp only [Act.put, lqA, lqB, lqC, lqD, lqE, lqF]
          refine hm_run 1 31 (.int .i64 ((j : Nat) : Int)) rfl rfl (by kernel_rfl) (by kernel_rfl) (by kernel_rfl) (fun _ _ _ h => h) rfl (fun _ _ => rfl) S0.out ?_
          try simp only [Act.put, lqA, lqB, lqC, lqD, lqE, lqF]
          refine hm_run 2 32 (.bool false) rfl rfl (by kernel_rfl) (by kernel_rfl) (by kernel_rfl) (fun _ _ _ h => h) rfl (fun _ _ => exec_leqN rfl rfl rfl LE.out) S0.out ?_
          try simp only [Act.put, lqA, lqB, lqC, lqD, lqE, lqF]
          refine hm_run 3 33 (.bool false) rfl rfl (by kernel_rfl) (by kernel_rfl) (by kernel_rfl) (fun _ _ _ h => h) rfl (fun _ _ => rfl) S0.out ?_
          try simp only [Act.put, lqA, lqB, lqC, lqD, lqE, lqF]
          refine hm_off 4 34 rfl rfl (by kernel_rfl) (by kernel_rfl) (by kernel_rfl) (fun _ _ _ h => h) rfl S0.out ?_
          try simp only [Act.put, lqA, lqB, lqC, lqD, lqE, lqF]
          refine hm_off 5 35 rfl rfl (by kernel_rfl) (by kernel_rfl) (by kernel_rfl) (fun _ _ _ h => h) rfl S0.out ?_
          try simp only [Act.put, lqA, lqB, lqC, lqD, lqE, lqF]
          refine hm_off 6 36 rfl rfl (by kernel_rfl) (by kernel_rfl) (by kernel_rfl) (fun _ _ _ h => h) rfl S0.out ?_
          try simp only [Act.put, lqA, lqB, lqC, lqD, lqE, lqF]
          refine hm_off 7 37 rfl rfl (by kernel_rfl) (by kernel_rfl) (by kernel_rfl) (fun _ _ _ h => h) rfl S0.out ?_
          try simp only [Act.put, lqA, lqB, lqC, lqD, lqE, lqF]
          refine hm_off 8 38 rfl rfl (by kernel_rfl) (by kernel_rfl) (by kernel_rfl) (fun _ _ _ h => h) rfl S0.out ?_
          try simp only [Act.put, lqA, lqB, lqC, lqD, lqE, lqF]
          refine hm_off 9 39 rfl rfl (by kernel_rfl) (by kernel_rfl) (by kernel_rfl) (fun _ _ _ h => h) rfl S0.out ?_
          try simp only [Act.put, lqA, lqB, lqC, lqD, lqE, lqF]
          refine hm_off 10 40 rfl rfl (by kernel_rfl) (by kernel_rfl) (by kernel_rfl) (fun _ _ _ h => h) rfl S0.out ?_
          try simp only [Act.put, lqA, lqB, lqC, lqD, lqE, lqF]
          refine hm_off 11 41 rfl rfl (by kernel_rfl) (by kernel_rfl) (by kernel_rfl) (fun _ _ _ h => h) rfl S0.out ?_
          try simp only [Act.put, lqA, lqB, lqC, lqD, lqE, lqF]
          refine hm_off 12 42 rfl rfl (by kernel_rfl) (by kernel_rfl) (by kernel_rfl) (fun _ _ _ h => h) rfl S0.out ?_
          try simp only [Act.put, lqA, lqB, lqC, lqD, lqE, lqF]
          refine hm_run 13 43 (.bool false) rfl rfl (by kernel_rfl) (by kernel_rfl) (by kernel_rfl) (fun _ _ _ h => h) rfl (fun _ _ => rfl) S0.out ?_
          try simp only [Act.put, lqA, lqB, lqC, lqD, lqE, lqF]
          refine wpAnyH_done (by kernel_rfl) ?_ _
          go_wp2_with fail
          go_meet
          exact ⟨rfl, by have := BND.out; omega, by have := BND.out; omega, N, HB⟩
    case rest =>
      obtain ⟨rfl, haI, hIn, N, HB⟩ := hcut
      have B2 := Lib.hid (show a < I2 ∧ I2 ≤ n + 1 ∧ j < b ∧ a < b ∧ b ≤ n ∧ n ≤ 20000 by have := B1.out; omega)
      clear haI hIn
      go_upto_block 2 with fail
      try simp only [Act.put, lqA, lqB, lqC, lqD, lqE, lqF]
      go_cut [11] (fun s11 wx => s11 = .int .i64 (J2 : Int) ∧ J2 ≤ j ∧ Hid (NRow B wx g n c d2 ∧ d2.size = n) ∧ Hid (Below B w wx))
      case first =>
        go_wp2_with fail
        go_loopg [11] j (fun k s11 wr => k ≤ j ∧ s11 = .int .i64 (k : Int) ∧ Hid (NRow B wr g n c d2 ∧ d2.size = n) ∧ Hid (Go.Sort.scanDown (fun x => !ltN x d2[a]!) d2 I2 k = J2) ∧ Hid (Below B w wr))
        case atStart => exact ⟨Nat.le_refl _, rfl, N, DN, HB⟩
        case round =>
          clear N DN HB
          obtain ⟨hpj, rfl, N, DN, HB⟩ := hrel
          obtain ⟨p, rfl⟩ : ∃ p : Nat, p = gk := ⟨_, rfl⟩
          obtain ⟨q, hq⟩ : ∃ q, q = I2 := ⟨_, rfl⟩
          subst hq
          obtain ⟨D2, hD2⟩ : ∃ D, D = wr := ⟨_, rfl⟩
          subst hD2
          have BND := Lib.hid (And.intro hpj B2.out)
          clear hpj
          by_cases hqp : q ≤ p
          · have LE := Lib.hid (show decide ((q : Int) ≤ (p : Int)) = true from decide_eq_true (by omega))
            replace BND := Lib.hid (And.intro hqp BND.out)
            by_cases hl : d2[p]! < d2[a]!
            · have LQ := Lib.hid (decide_eq_true hl)
              obtain rfl : p = J2 := by rw [← DN.out]; exact (dn_stop (by simp only [ltN]; rw [LQ.out]; rfl)).symm
              clear DN hqp hl
              go_upto_region 5 with fail
              refine wp_region_T (Φ := fun X => (NRow B X g n c d2 ∧ d2.size = n) ∧ Below B w X) (S := fun X => (NRow B X g n c d2 ∧ d2.size = n) ∧ Below B w X) (Lib.hid ⟨N.out, HB.out⟩) (fun X h => ⟨⟨h.1.1.below ((Below.refl _ _).drew), h.1.2⟩, h.2.drew⟩) (fun X h => h) (by kernel_rfl) ?_
              clear N HB
              intro wx TT S0
              have N := Lib.hid TT.out.1
              have HB := Lib.hid TT.out.2
              clear TT
              refine hm_run 0 46 (.int .i64 ((q : Nat) : Int)) rfl rfl (by kernel_rfl) (by kernel_rfl) (by kernel_rfl) (fun _ _ _ h => h) rfl (fun _ _ => rfl) S0.out ?_
              try simp only [Act.put, lqA, lqB, lqC, lqD, lqE, lqF]
              refine hm_run 1 47 (.int .i64 ((p : Nat) : Int)) rfl rfl (by kernel_rfl) (by kernel_rfl) (by kernel_rfl) (fun _ _ _ h => h) rfl (fun _ _ => rfl) S0.out ?_
              try simp only [Act.put, lqA, lqB, lqC, lqD, lqE, lqF]
              refine hm_run 2 48 (.bool true) rfl rfl (by kernel_rfl) (by kernel_rfl) (by kernel_rfl) (fun _ _ _ h => h) rfl (fun _ _ => exec_leqN rfl rfl rfl LE.out) S0.out ?_
              try simp only [Act.put, lqA, lqB, lqC, lqD, lqE, lqF]
              refine hm_run 3 49 (.bool true) rfl rfl (by kernel_rfl) (by kernel_rfl) (by kernel_rfl) (fun _ _ _ h => h) rfl (fun _ _ => rfl) S0.out ?_
              try simp only [Act.put, lqA, lqB, lqC, lqD, lqE, lqF]
              refine hm_run 4 50 (.slice (some ⟨g, 0, none⟩) n c) rfl rfl (by kernel_rfl) (by kernel_rfl) (by kernel_rfl) (fun _ _ _ h => h) rfl (fun _ _ => rfl) S0.out ?_
              try simp only [Act.put, lqA, lqB, lqC, lqD, lqE, lqF]
              refine hm_run 5 51 (.int .i64 ((p : Nat) : Int)) rfl rfl (by kernel_rfl) (by kernel_rfl) (by kernel_rfl) (fun _ _ _ h => h) rfl (fun _ _ => rfl) S0.out ?_
              try simp only [Act.put, lqA, lqB, lqC, lqD, lqE, lqF]
              refine hm_run 6 52 (.pointer (some ⟨g, 0 + (p) * 1, none⟩)) rfl rfl (by kernel_rfl) (by kernel_rfl) (by kernel_rfl) (fun _ _ _ h => h) rfl (fun W _ => exec_ix rfl (run_ix (k := 1) (j := p) Tryd.underlying54 (by kernel_rfl) (by have := BND.out; omega) rfl W)) S0.out ?_
              try simp only [Act.put, lqA, lqB, lqC, lqD, lqE, lqF]
              refine hm_run 7 53 (.int .u64 ((d2[p]! : Nat) : Int)) rfl rfl (by kernel_rfl) (by kernel_rfl) (by kernel_rfl) (fun _ _ _ h => h) rfl (fun W hW => exec_load rfl (run_load_one Tryd.underlying59 rfl (cell_dn (Lib.hid hW.1) (by have := BND.out; omega)))) S0.out ?_
              try simp only [Act.put, lqA, lqB, lqC, lqD, lqE, lqF]
              refine hm_run 8 54 (.slice (some ⟨g, 0, none⟩) n c) rfl rfl (by kernel_rfl) (by kernel_rfl) (by kernel_rfl) (fun _ _ _ h => h) rfl (fun _ _ => rfl) S0.out ?_
              try simp only [Act.put, lqA, lqB, lqC, lqD, lqE, lqF]
              refine hm_run 9 55 (.int .i64 ((a : Nat) : Int)) rfl rfl (by kernel_rfl) (by kernel_rfl) (by kernel_rfl) (fun _ _ _ h => h) rfl (fun _ _ => rfl) S0.out ?_
              try simp only [Act.put, lqA, lqB, lqC, lqD, lqE, lqF]
              refine hm_run 10 56 (.pointer (some ⟨g, 0 + (a) * 1, none⟩)) rfl rfl (by kernel_rfl) (by kernel_rfl) (by kernel_rfl) (fun _ _ _ h => h) rfl (fun W _ => exec_ix rfl (run_ix (k := 1) (j := a) Tryd.underlying54 (by kernel_rfl) (by have := BND.out; omega) rfl W)) S0.out ?_
              try simp only [Act.put, lqA, lqB, lqC, lqD, lqE, lqF]
              refine hm_run 11 57 (.int .u64 ((d2[a]! : Nat) : Int)) rfl rfl (by kernel_rfl) (by kernel_rfl) (by kernel_rfl) (fun _ _ _ h => h) rfl (fun W hW => exec_load rfl (run_load_one Tryd.underlying59 rfl (cell_dn (Lib.hid hW.1) (by have := BND.out; omega)))) S0.out ?_
              try simp only [Act.put, lqA, lqB, lqC, lqD, lqE, lqF]
              refine hm_one (i := 12) (by kernel_rfl) ?_
              refine hm_step 12 rfl (by kernel_rfl) fun K hK => ?_
              try simp only [Act.put, lqA, lqB, lqC, lqD, lqE, lqF]
              go_simp
              go_at_call 58
              refine (less_any _ _ _).mono ?_
              rintro e w7 ⟨rfl, rfl⟩
              rw [LQ.out]
              refine hK _ _ S0.out ?_
              clear hK K
              try simp only [Act.put, lqA, lqB, lqC, lqD, lqE, lqF]
              refine hm_run 13 59 (.bool false) rfl rfl (by kernel_rfl) (by kernel_rfl) (by kernel_rfl) (fun _ _ _ h => h) rfl (fun _ _ => rfl) S0.out ?_
              try simp only [Act.put, lqA, lqB, lqC, lqD, lqE, lqF]
              refine hm_run 14 60 (.bool false) rfl rfl (by kernel_rfl) (by kernel_rfl) (by kernel_rfl) (fun _ _ _ h => h) rfl (fun _ _ => rfl) S0.out ?_
              try simp only [Act.put, lqA, lqB, lqC, lqD, lqE, lqF]
              refine wpAnyH_done (by kernel_rfl) ?_ _
              go_wp2_with fail
              go_meet
              exact ⟨rfl, by have := BND.out; omega, N, HB⟩
            · have LQ := Lib.hid (decide_eq_false hl)
              have DNX := Lib.hid (show Go.Sort.scanDown (fun x => !ltN x d2[a]!) d2 q (p - 1) = J2 by rw [← DN.out]; exact (dn_go (by have := BND.out; omega) hqp (by simp only [ltN]; rw [LQ.out]; rfl)).symm)
              clear DN hqp hl
              go_upto_region 5 with fail
              refine wp_region_T (Φ := fun X => (NRow B X g n c d2 ∧ d2.size = n) ∧ Below B w X) (S := fun X => (NRow B X g n c d2 ∧ d2.size = n) ∧ Below B w X) (Lib.hid ⟨N.out, HB.out⟩) (fun X h => ⟨⟨h.1.1.below ((Below.refl _ _).drew), h.1.2⟩, h.2.drew⟩) (fun X h => h) (by kernel_rfl) ?_
              clear N HB
              intro wx TT S0
              have N := Lib.hid TT.out.1
              have HB := Lib.hid TT.out.2
              clear TT
              refine hm_run 0 46 (.int .i64 ((q : Nat) : Int)) rfl rfl (by kernel_rfl) (by kernel_rfl) (by kernel_rfl) (fun _ _ _ h => h) rfl (fun _ _ => rfl) S0.out ?_
              try simp only [Act.put, lqA, lqB, lqC, lqD, lqE, lqF]
              refine hm_run 1 47 (.int .i64 ((p : Nat) : Int)) rfl rfl (by kernel_rfl) (by kernel_rfl) (by kernel_rfl) (fun _ _ _ h => h) rfl (fun _ _ => rfl) S0.out ?_
              try simp only [Act.put, lqA, lqB, lqC, lqD, lqE, lqF]
              refine hm_run 2 48 (.bool true) rfl rfl (by kernel_rfl) (by kernel_rfl) (by kernel_rfl) (fun _ _ _ h => h) rfl (fun _ _ => exec_leqN rfl rfl rfl LE.out) S0.out ?_
              try simp only [Act.put, lqA, lqB, lqC, lqD, lqE, lqF]
              refine hm_run 3 49 (.bool true) rfl rfl (by kernel_rfl) (by kernel_rfl) (by kernel_rfl) (fun _ _ _ h => h) rfl (fun _ _ => rfl) S0.out ?_
              try simp only [Act.put, lqA, lqB, lqC, lqD, lqE, lqF]
              refine hm_run 4 50 (.slice (some ⟨g, 0, none⟩) n c) rfl rfl (by kernel_rfl) (by kernel_rfl) (by kernel_rfl) (fun _ _ _ h => h) rfl (fun _ _ => rfl) S0.out ?_
              try simp only [Act.put, lqA, lqB, lqC, lqD, lqE, lqF]
              refine hm_run 5 51 (.int .i64 ((p : Nat) : Int)) rfl rfl (by kernel_rfl) (by kernel_rfl) (by kernel_rfl) (fun _ _ _ h => h) rfl (fun _ _ => rfl) S0.out ?_
              try simp only [Act.put, lqA, lqB, lqC, lqD, lqE, lqF]
              refine hm_run 6 52 (.pointer (some ⟨g, 0 + (p) * 1, none⟩)) rfl rfl (by kernel_rfl) (by kernel_rfl) (by kernel_rfl) (fun _ _ _ h => h) rfl (fun W _ => exec_ix rfl (run_ix (k := 1) (j := p) Tryd.underlying54 (by kernel_rfl) (by have := BND.out; omega) rfl W)) S0.out ?_
              try simp only [Act.put, lqA, lqB, lqC, lqD, lqE, lqF]
              refine hm_run 7 53 (.int .u64 ((d2[p]! : Nat) : Int)) rfl rfl (by kernel_rfl) (by kernel_rfl) (by kernel_rfl) (fun _ _ _ h => h) rfl (fun W hW => exec_load rfl (run_load_one Tryd.underlying59 rfl (cell_dn (Lib.hid hW.1) (by have := BND.out; omega)))) S0.out ?_
              try simp only [Act.put, lqA, lqB, lqC, lqD, lqE, lqF]
              refine hm_run 8 54 (.slice (some ⟨g, 0, none⟩) n c) rfl rfl (by kernel_rfl) (by kernel_rfl) (by kernel_rfl) (fun _ _ _ h => h) rfl (fun _ _ => rfl) S0.out ?_
              try simp only [Act.put, lqA, lqB, lqC, lqD, lqE, lqF]
              refine hm_run 9 55 (.int .i64 ((a : Nat) : Int)) rfl rfl (by kernel_rfl) (by kernel_rfl) (by kernel_rfl) (fun _ _ _ h => h) rfl (fun _ _ => rfl) S0.out ?_
              try simp only [Act.put, lqA, lqB, lqC, lqD, lqE, lqF]
              refine hm_run 10 56 (.pointer (some ⟨g, 0 + (a) * 1, none⟩)) rfl rfl (by kernel_rfl) (by kernel_rfl) (by kernel_rfl) (fun _ _ _ h => h) rfl (fun W _ => exec_ix rfl (run_ix (k := 1) (j := a) Tryd.underlying54 (by kernel_rfl) (by have := BND.out; omega) rfl W)) S0.out ?_
              try simp only [Act.put, lqA, lqB, lqC, lqD, lqE, lqF]
              refine hm_run 11 57 (.int .u64 ((d2[a]! : Nat) : Int)) rfl rfl (by kernel_rfl) (by kernel_rfl) (by kernel_rfl) (fun _ _ _ h => h) rfl (fun W hW => exec_load rfl (run_load_one Tryd.underlying59 rfl (cell_dn (Lib.hid hW.1) (by have := BND.out; omega)))) S0.out ?_
              try simp only [Act.put, lqA, lqB, lqC, lqD, lqE, lqF]
              refine hm_one (i := 12) (by kernel_rfl) ?_
              refine hm_step 12 rfl (by kernel_rfl) fun K hK => ?_
              try simp only [Act.put, lqA, lqB, lqC, lqD, lqE, lqF]
              go_simp
              go_at_call 58
              refine (less_any _ _ _).mono ?_
              rintro e w7 ⟨rfl, rfl⟩
              rw [LQ.out]
              refine hK _ _ S0.out ?_
              clear hK K
              try simp only [Act.put, lqA, lqB, lqC, lqD, lqE, lqF]
              refine hm_run 13 59 (.bool true) rfl rfl (by kernel_rfl) (by kernel_rfl) (by kernel_rfl) (fun _ _ _ h => h) rfl (fun _ _ => rfl) S0.out ?_
              try simp only [Act.put, lqA, lqB, lqC, lqD, lqE, lqF]
              refine hm_run 14 60 (.bool true) rfl rfl (by kernel_rfl) (by kernel_rfl) (by kernel_rfl) (fun _ _ _ h => h) rfl (fun _ _ => rfl) S0.out ?_
              try simp only [Act.put, lqA, lqB, lqC, lqD, lqE, lqF]
              refine wpAnyH_done (by kernel_rfl) ?_ _
              go_wp2_with ((with_reducible refine wpList_at 62 rfl ?_); refine wpList_kn rfl (.int .i64 ((p - 1 : Nat) : Int)) (by exact exec_sub rfl rfl rfl (by have := BND.out; rw [IntKind.wrap_i64]; omega)) ?_)
              go_roundg (p - 1)
              case measure => have := BND.out; omega
              case rel => exact ⟨by have := BND.out; omega, rfl, N, DNX, HB⟩
          · have LE := Lib.hid (show decide ((q : Int) ≤ (p : Int)) = false from decide_eq_false (by omega))
            obtain rfl : p = J2 := by rw [← DN.out]; exact (dn_off hqp).symm
            clear DN hqp
            go_upto_region 5 with fail
            refine wp_region_T (Φ := fun X => (NRow B X g n c d2 ∧ d2.size = n) ∧ Below B w X) (S := fun X => (NRow B X g n c d2 ∧ d2.size = n) ∧ Below B w X) (Lib.hid ⟨N.out, HB.out⟩) (fun X h => ⟨⟨h.1.1.below ((Below.refl _ _).drew), h.1.2⟩, h.2.drew⟩) (fun X h => h) (by kernel_rfl) ?_
            clear N HB
            intro wx TT S0
            have N := Lib.hid TT.out.1
            have HB := Lib.hid TT.out.2
            clear TT
            refine hm_run 0 46 (.int .i64 ((q : Nat) : Int)) rfl rfl (by kernel_rfl) (by kernel_rfl) (by kernel_rfl) (fun _ _ _ h => h) rfl (fun _ _ => rfl) S0.out ?_
            try simp only [Act.put, lqA, lqB, lqC, lqD, lqE, lqF]
            refine hm_run 1 47 (.int .i64 ((p : Nat) : Int)) rfl rfl (by kernel_rfl) (by kernel_rfl) (by kernel_rfl) (fun _ _ _ h => h) rfl (fun _ _ => rfl) S0.out ?_
            try simp only [Act.put, lqA, lqB, lqC, lqD, lqE, lqF]
            refine hm_run 2 48 (.bool false) rfl rfl (by kernel_rfl) (by kernel_rfl) (by kernel_rfl) (fun _ _ _ h => h) rfl (fun _ _ => exec_leqN rfl rfl rfl LE.out) S0.out ?_
            try simp only [Act.put, lqA, lqB, lqC, lqD, lqE, lqF]
            refine hm_run 3 49 (.bool false) rfl rfl (by kernel_rfl) (by kernel_rfl) (by kernel_rfl) (fun _ _ _ h => h) rfl (fun _ _ => rfl) S0.out ?_
            try simp only [Act.put, lqA, lqB, lqC, lqD, lqE, lqF]
            refine hm_off 4 50 rfl rfl (by kernel_rfl) (by kernel_rfl) (by kernel_rfl) (fun _ _ _ h => h) rfl S0.out ?_
            try simp only [Act.put, lqA, lqB, lqC, lqD, lqE, lqF]
            refine hm_off 5 51 rfl rfl (by kernel_rfl) (by kernel_rfl) (by kernel_rfl) (fun _ _ _ h => h) rfl S0.out ?_
            try simp only [Act.put, lqA, lqB, lqC, lqD, lqE, lqF]
            refine hm_off 6 52 rfl rfl (by kernel_rfl) (by kernel_rfl) (by kernel_rfl) (fun _ _ _ h => h) rfl S0.out ?_
            try simp only [Act.put, lqA, lqB, lqC, lqD, lqE, lqF]
            refine hm_off 7 53 rfl rfl (by kernel_rfl) (by kernel_rfl) (by kernel_rfl) (fun _ _ _ h => h) rfl S0.out ?_
            try simp only [Act.put, lqA, lqB, lqC, lqD, lqE, lqF]
            refine hm_off 8 54 rfl rfl (by kernel_rfl) (by kernel_rfl) (by kernel_rfl) (fun _ _ _ h => h) rfl S0.out ?_
            try simp only [Act.put, lqA, lqB, lqC, lqD, lqE, lqF]
            refine hm_off 9 55 rfl rfl (by kernel_rfl) (by kernel_rfl) (by kernel_rfl) (fun _ _ _ h => h) rfl S0.out ?_
            try simp only [Act.put, lqA, lqB, lqC, lqD, lqE, lqF]
            refine hm_off 10 56 rfl rfl (by kernel_rfl) (by kernel_rfl) (by kernel_rfl) (fun _ _ _ h => h) rfl S0.out ?_
            try simp only [Act.put, lqA, lqB, lqC, lqD, lqE, lqF]
            refine hm_off 11 57 rfl rfl (by kernel_rfl) (by kernel_rfl) (by kernel_rfl) (fun _ _ _ h => h) rfl S0.out ?_
            try simp only [Act.put, lqA, lqB, lqC, lqD, lqE, lqF]
            refine hm_off 12 58 rfl rfl (by kernel_rfl) (by kernel_rfl) (by kernel_rfl) (fun _ _ _ h => h) rfl S0.out ?_
            try simp only [Act.put, lqA, lqB, lqC, lqD, lqE, lqF]
            refine hm_off 13 59 rfl rfl (by kernel_rfl) (by kernel_rfl) (by kernel_rfl) (fun _ _ _ h => h) rfl S0.out ?_
            try simp only [Act.put, lqA, lqB, lqC, lqD, lqE, lqF]
            refine hm_run 14 60 (.bool false) rfl rfl (by kernel_rfl) (by kernel_rfl) (by kernel_rfl) (fun _ _ _ h => h) rfl (fun _ _ => rfl) S0.out ?_
            try simp only [Act.put, lqA, lqB, lqC, lqD, lqE, lqF]
            refine wpAnyH_done (by kernel_rfl) ?_ _
            go_wp2_with fail
            go_meet
            exact ⟨rfl, by have := BND.out; omega, N, HB⟩
      case rest =>
        obtain ⟨rfl, hJj, N, HB⟩ := hcut
        have BND := Lib.hid (And.intro hJj B2.out)
        clear hJj
        by_cases hgt : I2 > J2
        · have GT := Lib.hid (show decide ((J2 : Int) < (I2 : Int)) = true from decide_eq_true (by omega))
          have RX := Lib.hid (show (J2, true, Go.Sort.swp d2 J2 a) = R by have h := OUT.out; rw [if_pos hgt] at h; exact h)
          clear OUT hgt
          go_upto_region 8 with ((with_reducible refine wpList_at 65 rfl ?_); refine wpList_kn rfl (.bool true) (by exact exec_gtrN rfl rfl rfl GT.out) ?_)
          refine wp_region_T (Φ := fun X => (NRow B X g n c d2 ∧ d2.size = n) ∧ Below B w X) (S := fun _ => True) (Lib.hid ⟨N.out, HB.out⟩) (fun X h => ⟨⟨h.1.1.below ((Below.refl _ _).drew), h.1.2⟩, h.2.drew⟩) (fun _ _ => trivial) (by kernel_rfl) ?_
          clear N HB
          intro wx TT S0
          have N := Lib.hid TT.out.1
          have HB := Lib.hid TT.out.2
          clear TT
          refine hm_run 0 66 (.slice (some ⟨g, 0, none⟩) n c) rfl rfl (by kernel_rfl) (by kernel_rfl) (by kernel_rfl) (fun _ _ _ h => h) rfl (fun _ _ => rfl) trivial ?_
          try simp only [Act.put, lqA, lqB, lqC, lqD, lqE, lqF]
          refine hm_run 1 67 (.int .i64 ((J2 : Nat) : Int)) rfl rfl (by kernel_rfl) (by kernel_rfl) (by kernel_rfl) (fun _ _ _ h => h) rfl (fun _ _ => rfl) trivial ?_
          try simp only [Act.put, lqA, lqB, lqC, lqD, lqE, lqF]
          refine hm_run 2 68 (.slice (some ⟨g, 0, none⟩) n c) rfl rfl (by kernel_rfl) (by kernel_rfl) (by kernel_rfl) (fun _ _ _ h => h) rfl (fun _ _ => rfl) trivial ?_
          try simp only [Act.put, lqA, lqB, lqC, lqD, lqE, lqF]
          refine hm_run 3 69 (.int .i64 ((a : Nat) : Int)) rfl rfl (by kernel_rfl) (by kernel_rfl) (by kernel_rfl) (fun _ _ _ h => h) rfl (fun _ _ => rfl) trivial ?_
          try simp only [Act.put, lqA, lqB, lqC, lqD, lqE, lqF]
          refine hm_run 4 70 (.slice (some ⟨g, 0, none⟩) n c) rfl rfl (by kernel_rfl) (by kernel_rfl) (by kernel_rfl) (fun _ _ _ h => h) rfl (fun _ _ => rfl) trivial ?_
          try simp only [Act.put, lqA, lqB, lqC, lqD, lqE, lqF]
          refine hm_run 5 71 (.int .i64 ((a : Nat) : Int)) rfl rfl (by kernel_rfl) (by kernel_rfl) (by kernel_rfl) (fun _ _ _ h => h) rfl (fun _ _ => rfl) trivial ?_
          try simp only [Act.put, lqA, lqB, lqC, lqD, lqE, lqF]
          refine hm_run 6 72 (.pointer (some ⟨g, 0 + (a) * 1, none⟩)) rfl rfl (by kernel_rfl) (by kernel_rfl) (by kernel_rfl) (fun _ _ _ h => h) rfl (fun W _ => exec_ix rfl (run_ix (k := 1) (j := a) Tryd.underlying54 (by kernel_rfl) (by have := BND.out; omega) rfl W)) trivial ?_
          try simp only [Act.put, lqA, lqB, lqC, lqD, lqE, lqF]
          refine hm_run 8 74 (.slice (some ⟨g, 0, none⟩) n c) rfl rfl (by kernel_rfl) (by kernel_rfl) (by kernel_rfl) (fun _ _ _ h => h) rfl (fun _ _ => rfl) trivial ?_
          try simp only [Act.put, lqA, lqB, lqC, lqD, lqE, lqF]
          refine hm_run 9 75 (.int .i64 ((J2 : Nat) : Int)) rfl rfl (by kernel_rfl) (by kernel_rfl) (by kernel_rfl) (fun _ _ _ h => h) rfl (fun _ _ => rfl) trivial ?_
          try simp only [Act.put, lqA, lqB, lqC, lqD, lqE, lqF]
          refine hm_run 10 76 (.pointer (some ⟨g, 0 + (J2) * 1, none⟩)) rfl rfl (by kernel_rfl) (by kernel_rfl) (by kernel_rfl) (fun _ _ _ h => h) rfl (fun W _ => exec_ix rfl (run_ix (k := 1) (j := J2) Tryd.underlying54 (by kernel_rfl) (by have := BND.out; omega) rfl W)) trivial ?_
          try simp only [Act.put, lqA, lqB, lqC, lqD, lqE, lqF]
          refine hm_two (i := 7) (j := 11) (by kernel_rfl) ?_ ?_
          · refine hm_step 7 rfl (by kernel_rfl) fun K hK => ?_
            try simp only [Act.put, lqA, lqB, lqC, lqD, lqE, lqF]
            refine mo_known (.int .u64 ((d2[a]! : Nat) : Int)) _ (exec_load rfl (run_load_one Tryd.underlying59 rfl (cell_dn N (by have := BND.out; omega)))) ?_
            refine hK _ _ trivial ?_
            clear hK K
            try simp only [Act.put, lqA, lqB, lqC, lqD, lqE, lqF]
            refine hm_one (i := 11) (by kernel_rfl) ?_
            refine hm_step 11 rfl (by kernel_rfl) fun K hK => ?_
            try simp only [Act.put, lqA, lqB, lqC, lqD, lqE, lqF]
            refine mo_known (.int .u64 ((d2[J2]! : Nat) : Int)) _ (exec_load rfl (run_load_one Tryd.underlying59 rfl (cell_dn N (by have := BND.out; omega)))) ?_
            refine hK _ _ trivial ?_
            clear hK K
            try simp only [Act.put, lqA, lqB, lqC, lqD, lqE, lqF]
            refine hm_run 12 78 (.pointer (some ⟨g, 0 + (J2) * 1, none⟩)) rfl rfl (by kernel_rfl) (by kernel_rfl) (by kernel_rfl) (fun _ _ _ h => h) rfl (fun W _ => exec_ix rfl (run_ix (k := 1) (j := J2) Tryd.underlying54 (by kernel_rfl) (by have := BND.out; omega) rfl W)) trivial ?_
            try simp only [Act.put, lqA, lqB, lqC, lqD, lqE, lqF]
            refine hm_one (i := 13) (by kernel_rfl) ?_
            refine hm_step 13 rfl (by kernel_rfl) fun K hK => ?_
            try simp only [Act.put, lqA, lqB, lqC, lqD, lqE, lqF]
            refine mo_vput (i := J2) (v := d2[a]!) (.tmp 78) (.tmp 73) rfl N rfl rfl (by have := BND.out; omega) ?_
            clear N
            intro w9 N hb9
            replace HB := Lib.hid (HB.out.trans hb9.out)
            clear hb9
            refine hK _ _ trivial ?_
            clear hK K
            try simp only [Act.put, lqA, lqB, lqC, lqD, lqE, lqF]
            refine hm_run 14 79 (.pointer (some ⟨g, 0 + (a) * 1, none⟩)) rfl rfl (by kernel_rfl) (by kernel_rfl) (by kernel_rfl) (fun _ _ _ h => h) rfl (fun W _ => exec_ix rfl (run_ix (k := 1) (j := a) Tryd.underlying54 (by kernel_rfl) (by have := BND.out; omega) rfl W)) trivial ?_
            try simp only [Act.put, lqA, lqB, lqC, lqD, lqE, lqF]
            refine hm_one (i := 15) (by kernel_rfl) ?_
            refine hm_step 15 rfl (by kernel_rfl) fun K hK => ?_
            try simp only [Act.put, lqA, lqB, lqC, lqD, lqE, lqF]
            refine mo_vput (i := a) (v := d2[J2]!) (.tmp 79) (.tmp 77) rfl N rfl rfl (by have := BND.out; omega) ?_
            clear N
            intro w9 N hb9
            replace HB := Lib.hid (HB.out.trans hb9.out)
            clear hb9
            refine hK _ _ trivial ?_
            clear hK K
            try simp only [Act.put, lqA, lqB, lqC, lqD, lqE, lqF]
            refine wpAnyH_done (by kernel_rfl) ?_ _
            go_wp2_with fail
            ((try simp only [Exit.inBlock, Exit.then]); refine bodyPost_ret (results_tmp2 rfl _ _ _) rfl ?_)
            exact ⟨by rw [← RX.out]; rfl, by rw [← RX.out]; exact N.out, HB.out⟩
          · refine hm_step 11 rfl (by kernel_rfl) fun K hK => ?_
            try simp only [Act.put, lqA, lqB, lqC, lqD, lqE, lqF]
            refine mo_known (.int .u64 ((d2[J2]! : Nat) : Int)) _ (exec_load rfl (run_load_one Tryd.underlying59 rfl (cell_dn N (by have := BND.out; omega)))) ?_
            refine hK _ _ trivial ?_
            clear hK K
            try simp only [Act.put, lqA, lqB, lqC, lqD, lqE, lqF]
            refine hm_one (i := 7) (by kernel_rfl) ?_
            refine hm_step 7 rfl (by kernel_rfl) fun K hK => ?_
            try simp only [Act.put, lqA, lqB, lqC, lqD, lqE, lqF]
            refine mo_known (.int .u64 ((d2[a]! : Nat) : Int)) _ (exec_load rfl (run_load_one Tryd.underlying59 rfl (cell_dn N (by have := BND.out; omega)))) ?_
            refine hK _ _ trivial ?_
            clear hK K
            try simp only [Act.put, lqA, lqB, lqC, lqD, lqE, lqF]
            refine hm_run 12 78 (.pointer (some ⟨g, 0 + (J2) * 1, none⟩)) rfl rfl (by kernel_rfl) (by kernel_rfl) (by kernel_rfl) (fun _ _ _ h => h) rfl (fun W _ => exec_ix rfl (run_ix (k := 1) (j := J2) Tryd.underlying54 (by kernel_rfl) (by have := BND.out; omega) rfl W)) trivial ?_
            try simp only [Act.put, lqA, lqB, lqC, lqD, lqE, lqF]
            refine hm_one (i := 13) (by kernel_rfl) ?_
            refine hm_step 13 rfl (by kernel_rfl) fun K hK => ?_
            try simp only [Act.put, lqA, lqB, lqC, lqD, lqE, lqF]
            refine mo_vput (i := J2) (v := d2[a]!) (.tmp 78) (.tmp 73) rfl N rfl rfl (by have := BND.out; omega) ?_
            clear N
            intro w9 N hb9
            replace HB := Lib.hid (HB.out.trans hb9.out)
            clear hb9
            refine hK _ _ trivial ?_
            clear hK K
            try simp only [Act.put, lqA, lqB, lqC, lqD, lqE, lqF]
            refine hm_run 14 79 (.pointer (some ⟨g, 0 + (a) * 1, none⟩)) rfl rfl (by kernel_rfl) (by kernel_rfl) (by kernel_rfl) (fun _ _ _ h => h) rfl (fun W _ => exec_ix rfl (run_ix (k := 1) (j := a) Tryd.underlying54 (by kernel_rfl) (by have := BND.out; omega) rfl W)) trivial ?_
            try simp only [Act.put, lqA, lqB, lqC, lqD, lqE, lqF]
            refine hm_one (i := 15) (by kernel_rfl) ?_
            refine hm_step 15 rfl (by kernel_rfl) fun K hK => ?_
            try simp only [Act.put, lqA, lqB, lqC, lqD, lqE, lqF]
            refine mo_vput (i := a) (v := d2[J2]!) (.tmp 79) (.tmp 77) rfl N rfl rfl (by have := BND.out; omega) ?_
            clear N
            intro w9 N hb9
            replace HB := Lib.hid (HB.out.trans hb9.out)
            clear hb9
            refine hK _ _ trivial ?_
            clear hK K
            try simp only [Act.put, lqA, lqB, lqC, lqD, lqE, lqF]
            refine wpAnyH_done (by kernel_rfl) ?_ _
            go_wp2_with fail
            ((try simp only [Exit.inBlock, Exit.then]); refine bodyPost_ret (results_tmp2 rfl _ _ _) rfl ?_)
            exact ⟨by rw [← RX.out]; rfl, by rw [← RX.out]; exact N.out, HB.out⟩
        · have GT := Lib.hid (show decide ((J2 : Int) < (I2 : Int)) = false from decide_eq_false (by omega))
          replace BND := Lib.hid (And.intro (Nat.le_of_not_gt hgt) BND.out)
          obtain ⟨RR, hRR⟩ : ∃ RR, RR = Go.Sort.partLoop ltN a (I2 + 1) (J2 - 1) (Go.Sort.swp d2 I2 J2) := ⟨_, rfl⟩
          have RO := Lib.hid (show (RR.1, false, Go.Sort.swp RR.2 RR.1 a) = R by have h := OUT.out; rw [if_neg hgt, ← hRR] at h; exact h)
          have OUT0 := Lib.hid hRR.symm
          clear OUT hgt hRR
          go_upto_region 10 with ((with_reducible refine wpList_at 65 rfl ?_); refine wpList_kn rfl (.bool false) (by exact exec_gtrN rfl rfl rfl GT.out) ?_)
          try simp only [Act.put, lqA, lqB, lqC, lqD, lqE, lqF]
          go_cut [8] (fun s8 wx => s8 = .int .i64 0 ∧ Hid (NRow B wx g n c (Go.Sort.swp d2 I2 J2) ∧ (Go.Sort.swp d2 I2 J2).size = n) ∧ Hid (Below B w wx))
          case first =>
            refine wp_region_T (Φ := fun X => (NRow B X g n c d2 ∧ d2.size = n) ∧ Below B w X) (S := fun _ => True) (Lib.hid ⟨N.out, HB.out⟩) (fun X h => ⟨⟨h.1.1.below ((Below.refl _ _).drew), h.1.2⟩, h.2.drew⟩) (fun _ _ => trivial) (by kernel_rfl) ?_
            clear N HB
            intro wx TT S0
            have N := Lib.hid TT.out.1
            have HB := Lib.hid TT.out.2
            clear TT
            refine hm_run 0 81 (.slice (some ⟨g, 0, none⟩) n c) rfl rfl (by kernel_rfl) (by kernel_rfl) (by kernel_rfl) (fun _ _ _ h => h) rfl (fun _ _ => rfl) trivial ?_
            try simp only [Act.put, lqA, lqB, lqC, lqD, lqE, lqF]
            refine hm_run 1 82 (.int .i64 ((I2 : Nat) : Int)) rfl rfl (by kernel_rfl) (by kernel_rfl) (by kernel_rfl) (fun _ _ _ h => h) rfl (fun _ _ => rfl) trivial ?_
            try simp only [Act.put, lqA, lqB, lqC, lqD, lqE, lqF]
            refine hm_run 2 83 (.slice (some ⟨g, 0, none⟩) n c) rfl rfl (by kernel_rfl) (by kernel_rfl) (by kernel_rfl) (fun _ _ _ h => h) rfl (fun _ _ => rfl) trivial ?_
            try simp only [Act.put, lqA, lqB, lqC, lqD, lqE, lqF]
            refine hm_run 3 84 (.int .i64 ((J2 : Nat) : Int)) rfl rfl (by kernel_rfl) (by kernel_rfl) (by kernel_rfl) (fun _ _ _ h => h) rfl (fun _ _ => rfl) trivial ?_
            try simp only [Act.put, lqA, lqB, lqC, lqD, lqE, lqF]
            refine hm_run 4 85 (.slice (some ⟨g, 0, none⟩) n c) rfl rfl (by kernel_rfl) (by kernel_rfl) (by kernel_rfl) (fun _ _ _ h => h) rfl (fun _ _ => rfl) trivial ?_
            try simp only [Act.put, lqA, lqB, lqC, lqD, lqE, lqF]
            refine hm_run 5 86 (.int .i64 ((J2 : Nat) : Int)) rfl rfl (by kernel_rfl) (by kernel_rfl) (by kernel_rfl) (fun _ _ _ h => h) rfl (fun _ _ => rfl) trivial ?_
            try simp only [Act.put, lqA, lqB, lqC, lqD, lqE, lqF]
            refine hm_run 6 87 (.pointer (some ⟨g, 0 + (J2) * 1, none⟩)) rfl rfl (by kernel_rfl) (by kernel_rfl) (by kernel_rfl) (fun _ _ _ h => h) rfl (fun W _ => exec_ix rfl (run_ix (k := 1) (j := J2) Tryd.underlying54 (by kernel_rfl) (by have := BND.out; omega) rfl W)) trivial ?_
            try simp only [Act.put, lqA, lqB, lqC, lqD, lqE, lqF]
            refine hm_run 8 89 (.slice (some ⟨g, 0, none⟩) n c) rfl rfl (by kernel_rfl) (by kernel_rfl) (by kernel_rfl) (fun _ _ _ h => h) rfl (fun _ _ => rfl) trivial ?_
            try simp only [Act.put, lqA, lqB, lqC, lqD, lqE, lqF]
            refine hm_run 9 90 (.int .i64 ((I2 : Nat) : Int)) rfl rfl (by kernel_rfl) (by kernel_rfl) (by kernel_rfl) (fun _ _ _ h => h) rfl (fun _ _ => rfl) trivial ?_
            try simp only [Act.put, lqA, lqB, lqC, lqD, lqE, lqF]
            refine hm_run 10 91 (.pointer (some ⟨g, 0 + (I2) * 1, none⟩)) rfl rfl (by kernel_rfl) (by kernel_rfl) (by kernel_rfl) (fun _ _ _ h => h) rfl (fun W _ => exec_ix rfl (run_ix (k := 1) (j := I2) Tryd.underlying54 (by kernel_rfl) (by have := BND.out; omega) rfl W)) trivial ?_
            try simp only [Act.put, lqA, lqB, lqC, lqD, lqE, lqF]
            refine hm_two (i := 7) (j := 11) (by kernel_rfl) ?_ ?_
            · refine hm_step 7 rfl (by kernel_rfl) fun K hK => ?_
              try simp only [Act.put, lqA, lqB, lqC, lqD, lqE, lqF]
              refine mo_known (.int .u64 ((d2[J2]! : Nat) : Int)) _ (exec_load rfl (run_load_one Tryd.underlying59 rfl (cell_dn N (by have := BND.out; omega)))) ?_
              refine hK _ _ trivial ?_
              clear hK K
              try simp only [Act.put, lqA, lqB, lqC, lqD, lqE, lqF]
              refine hm_one (i := 11) (by kernel_rfl) ?_
              refine hm_step 11 rfl (by kernel_rfl) fun K hK => ?_
              try simp only [Act.put, lqA, lqB, lqC, lqD, lqE, lqF]
              refine mo_known (.int .u64 ((d2[I2]! : Nat) : Int)) _ (exec_load rfl (run_load_one Tryd.underlying59 rfl (cell_dn N (by have := BND.out; omega)))) ?_
              refine hK _ _ trivial ?_
              clear hK K
              try simp only [Act.put, lqA, lqB, lqC, lqD, lqE, lqF]
              refine hm_run 12 93 (.pointer (some ⟨g, 0 + (I2) * 1, none⟩)) rfl rfl (by kernel_rfl) (by kernel_rfl) (by kernel_rfl) (fun _ _ _ h => h) rfl (fun W _ => exec_ix rfl (run_ix (k := 1) (j := I2) Tryd.underlying54 (by kernel_rfl) (by have := BND.out; omega) rfl W)) trivial ?_
              try simp only [Act.put, lqA, lqB, lqC, lqD, lqE, lqF]
              refine hm_one (i := 13) (by kernel_rfl) ?_
              refine hm_step 13 rfl (by kernel_rfl) fun K hK => ?_
              try simp only [Act.put, lqA, lqB, lqC, lqD, lqE, lqF]
              refine mo_vput (i := I2) (v := d2[J2]!) (.tmp 93) (.tmp 88) rfl N rfl rfl (by have := BND.out; omega) ?_
              clear N
              intro w9 N hb9
              replace HB := Lib.hid (HB.out.trans hb9.out)
              clear hb9
              refine hK _ _ trivial ?_
              clear hK K
              try simp only [Act.put, lqA, lqB, lqC, lqD, lqE, lqF]
              refine hm_run 14 94 (.pointer (some ⟨g, 0 + (J2) * 1, none⟩)) rfl rfl (by kernel_rfl) (by kernel_rfl) (by kernel_rfl) (fun _ _ _ h => h) rfl (fun W _ => exec_ix rfl (run_ix (k := 1) (j := J2) Tryd.underlying54 (by kernel_rfl) (by have := BND.out; omega) rfl W)) trivial ?_
              try simp only [Act.put, lqA, lqB, lqC, lqD, lqE, lqF]
              refine hm_one (i := 15) (by kernel_rfl) ?_
              refine hm_step 15 rfl (by kernel_rfl) fun K hK => ?_
              try simp only [Act.put, lqA, lqB, lqC, lqD, lqE, lqF]
              refine mo_vput (i := J2) (v := d2[I2]!) (.tmp 94) (.tmp 92) rfl N rfl rfl (by have := BND.out; omega) ?_
              clear N
              intro w9 N hb9
              replace HB := Lib.hid (HB.out.trans hb9.out)
              clear hb9
              refine hK _ _ trivial ?_
              clear hK K
              try simp only [Act.put, lqA, lqB, lqC, lqD, lqE, lqF]
              refine wpAnyH_done (by kernel_rfl) ?_ _
              go_wp2_with fail
              go_meet
              exact ⟨rfl, N, HB⟩
            · refine hm_step 11 rfl (by kernel_rfl) fun K hK => ?_
              try simp only [Act.put, lqA, lqB, lqC, lqD, lqE, lqF]
              refine mo_known (.int .u64 ((d2[I2]! : Nat) : Int)) _ (exec_load rfl (run_load_one Tryd.underlying59 rfl (cell_dn N (by have := BND.out; omega)))) ?_
              refine hK _ _ trivial ?_
              clear hK K
              try simp only [Act.put, lqA, lqB, lqC, lqD, lqE, lqF]
              refine hm_one (i := 7) (by kernel_rfl) ?_
              refine hm_step 7 rfl (by kernel_rfl) fun K hK => ?_
              try simp only [Act.put, lqA, lqB, lqC, lqD, lqE, lqF]
              refine mo_known (.int .u64 ((d2[J2]! : Nat) : Int)) _ (exec_load rfl (run_load_one Tryd.underlying59 rfl (cell_dn N (by have := BND.out; omega)))) ?_
              refine hK _ _ trivial ?_
              clear hK K
              try simp only [Act.put, lqA, lqB, lqC, lqD, lqE, lqF]
              refine hm_run 12 93 (.pointer (some ⟨g, 0 + (I2) * 1, none⟩)) rfl rfl (by kernel_rfl) (by kernel_rfl) (by kernel_rfl) (fun _ _ _ h => h) rfl (fun W _ => exec_ix rfl (run_ix (k := 1) (j := I2) Tryd.underlying54 (by kernel_rfl) (by have := BND.out; omega) rfl W)) trivial ?_
              try simp only [Act.put, lqA, lqB, lqC, lqD, lqE, lqF]
              refine hm_one (i := 13) (by kernel_rfl) ?_
              refine hm_step 13 rfl (by kernel_rfl) fun K hK => ?_
              try simp only [Act.put, lqA, lqB, lqC, lqD, lqE, lqF]
              refine mo_vput (i := I2) (v := d2[J2]!) (.tmp 93) (.tmp 88) rfl N rfl rfl (by have := BND.out; omega) ?_
              clear N
              intro w9 N hb9
              replace HB := Lib.hid (HB.out.trans hb9.out)
              clear hb9
              refine hK _ _ trivial ?_
              clear hK K
              try simp only [Act.put, lqA, lqB, lqC, lqD, lqE, lqF]
              refine hm_run 14 94 (.pointer (some ⟨g, 0 + (J2) * 1, none⟩)) rfl rfl (by kernel_rfl) (by kernel_rfl) (by kernel_rfl) (fun _ _ _ h => h) rfl (fun W _ => exec_ix rfl (run_ix (k := 1) (j := J2) Tryd.underlying54 (by kernel_rfl) (by have := BND.out; omega) rfl W)) trivial ?_
              try simp only [Act.put, lqA, lqB, lqC, lqD, lqE, lqF]
              refine hm_one (i := 15) (by kernel_rfl) ?_
              refine hm_step 15 rfl (by kernel_rfl) fun K hK => ?_
              try simp only [Act.put, lqA, lqB, lqC, lqD, lqE, lqF]
              refine mo_vput (i := J2) (v := d2[I2]!) (.tmp 94) (.tmp 92) rfl N rfl rfl (by have := BND.out; omega) ?_
              clear N
              intro w9 N hb9
              replace HB := Lib.hid (HB.out.trans hb9.out)
              clear hb9
              refine hK _ _ trivial ?_
              clear hK K
              try simp only [Act.put, lqA, lqB, lqC, lqD, lqE, lqF]
              refine wpAnyH_done (by kernel_rfl) ?_ _
              go_wp2_with fail
              go_meet
              exact ⟨rfl, N, HB⟩
          case rest =>
            obtain ⟨rfl, N, HB⟩ := hcut
            go_upto_region 13 with (first | ((with_reducible refine wpList_at 96 rfl ?_); refine wpList_kn rfl (.int .i64 ((I2 + 1 : Nat) : Int)) (by exact exec_add rfl rfl rfl (by have := BND.out; rw [IntKind.wrap_i64]; omega)) ?_) | ((with_reducible refine wpList_at 98 rfl ?_); refine wpList_kn rfl (.int .i64 ((J2 - 1 : Nat) : Int)) (by exact exec_sub rfl rfl rfl (by have := BND.out; rw [IntKind.wrap_i64]; omega)) ?_))
            go_loopg [10, 11] ((J2 - 1) + 1 - (I2 + 1)) (fun k s10 s11 wr => ∃ (i j : Nat) (d2 : Array Nat), j + 1 - i = k ∧ a < i ∧ i ≤ n + 1 ∧ j < b ∧ s10 = .int .i64 (i : Int) ∧ s11 = .int .i64 (j : Int) ∧ Hid (NRow B wr g n c d2 ∧ d2.size = n) ∧ Hid (Go.Sort.partLoop ltN a i j d2 = RR) ∧ Hid (Below B w wr))
            case atStart => exact ⟨I2 + 1, J2 - 1, _, rfl, by have := BND.out; omega, by have := BND.out; omega, by have := BND.out; omega, rfl, rfl, N, OUT0, HB⟩
            case round =>
              clear N OUT0 HB
              obtain ⟨i, j, d2, hk, hai, hin, hjb, rfl, rfl, N, IN, HB⟩ := hrel
              obtain ⟨D, hD⟩ : ∃ D, D = wr := ⟨_, rfl⟩
              subst hD
              obtain ⟨I2, hI2⟩ : ∃ I2, I2 = Go.Sort.scanUp (fun x => ltN x d2[a]!) d2 j i := ⟨_, rfl⟩
              obtain ⟨J2, hJ2⟩ : ∃ J2, J2 = Go.Sort.scanDown (fun x => !ltN x d2[a]!) d2 I2 j := ⟨_, rfl⟩
              have OUT := Lib.hid (show (if I2 > J2 then (J2, d2) else Go.Sort.partLoop ltN a (I2 + 1) (J2 - 1) (Go.Sort.swp d2 I2 J2)) = RR by have h := IN.out; rw [Go.Sort.partLoop_eq, ← hI2, ← hJ2] at h; exact h)
              have UP := Lib.hid hI2.symm
              have DN := Lib.hid hJ2.symm
              have KI := Lib.hid hk
              have B1 := Lib.hid (show a < i ∧ i ≤ n + 1 ∧ j < b ∧ a < b ∧ b ≤ n ∧ n ≤ 20000 by have := BI.out; omega)
              have KIJ := Lib.hid (show i ≤ I2 by rw [hI2]; exact Go.Sort.scanUp_ge _ _ _ _)
              clear hI2 hJ2 IN hk hai hin hjb
              go_upto_block 6 with fail
              try simp only [Act.put, lqA, lqB, lqC, lqD, lqE, lqF]
              go_cut [10] (fun s10 wx => s10 = .int .i64 (I2 : Int) ∧ a < I2 ∧ I2 ≤ n + 1 ∧ Hid (NRow B wx g n c d2 ∧ d2.size = n) ∧ Hid (Below B w wx))
              case first =>
                go_wp2_with fail
                go_loopg [10] (j + 1 - i) (fun k s10 wr => ∃ q : Nat, j + 1 - q = k ∧ i ≤ q ∧ q ≤ n + 1 ∧ s10 = .int .i64 (q : Int) ∧ Hid (NRow B wr g n c d2 ∧ d2.size = n) ∧ Hid (Go.Sort.scanUp (fun x => ltN x d2[a]!) d2 j q = I2) ∧ Hid (Below B w wr))
                case atStart => exact ⟨i, rfl, Nat.le_refl _, by have := B1.out; omega, rfl, N, UP, HB⟩
                case round =>
                  clear N UP HB
                  obtain ⟨q, hk, hiq, hqn, rfl, N, UP, HB⟩ := hrel
                  obtain ⟨D2, hD2⟩ : ∃ D, D = wr := ⟨_, rfl⟩
                  subst hD2
                  have KQ := Lib.hid hk
                  have BND := Lib.hid (show i ≤ q ∧ q ≤ n + 1 ∧ a < i ∧ j < b ∧ a < b ∧ b ≤ n ∧ n ≤ 20000 by have := B1.out; omega)
                  clear hk hiq hqn
                  by_cases hqj : q ≤ j
                  · have LE := Lib.hid (show decide ((q : Int) ≤ (j : Int)) = true from decide_eq_true (by omega))
                    replace BND := Lib.hid (And.intro hqj BND.out)
                    by_cases hl : d2[q]! < d2[a]!
                    · have LQ := Lib.hid (decide_eq_true hl)
                      have UPX := Lib.hid (show Go.Sort.scanUp (fun x => ltN x d2[a]!) d2 j (q + 1) = I2 by rw [← UP.out]; exact (up_go hqj (by simp only [ltN]; exact LQ.out)).symm)
                      clear UP hqj hl
                      go_upto_region 13 with fail
                      refine wp_region_T (Φ := fun X => (NRow B X g n c d2 ∧ d2.size = n) ∧ Below B w X) (S := fun X => (NRow B X g n c d2 ∧ d2.size = n) ∧ Below B w X) (Lib.hid ⟨N.out, HB.out⟩) (fun X h => ⟨⟨h.1.1.below ((Below.refl _ _).drew), h.1.2⟩, h.2.drew⟩) (fun X h => h) (by kernel_rfl) ?_
                      clear N HB
                      intro wx TT S0
                      have N := Lib.hid TT.out.1
                      have HB := Lib.hid TT.out.2
                      clear TT
                      refine hm_run 0 99 (.int .i64 ((q : Nat) : Int)) rfl rfl (by kernel_rfl) (by kernel_rfl) (by kernel_rfl) (fun _ _ _ h => h) rfl (fun _ _ => rfl) S0.out ?_
                      try simp only [Act.put, lqA, lqB, lqC, lqD, lqE, lqF]
                      refine hm_run 1 100 (.int .i64 ((j : Nat) : Int)) rfl rfl (by kernel_rfl) (by kernel_rfl) (by kernel_rfl) (fun _ _ _ h => h) rfl (fun _ _ => rfl) S0.out ?_
                      try simp only [Act.put, lqA, lqB, lqC, lqD, lqE, lqF]
                      refine hm_run 2 101 (.bool true) rfl rfl (by kernel_rfl) (by kernel_rfl) (by kernel_rfl) (fun _ _ _ h => h) rfl (fun _ _ => exec_leqN rfl rfl rfl LE.out) S0.out ?_
                      try simp only [Act.put, lqA, lqB, lqC, lqD, lqE, lqF]
                      refine hm_run 3 102 (.bool true) rfl rfl (by kernel_rfl) (by kernel_rfl) (by kernel_rfl) (fun _ _ _ h => h) rfl (fun _ _ => rfl) S0.out ?_
                      try simp only [Act.put, lqA, lqB, lqC, lqD, lqE, lqF]
                      refine hm_run 4 103 (.slice (some ⟨g, 0, none⟩) n c) rfl rfl (by kernel_rfl) (by kernel_rfl) (by kernel_rfl) (fun _ _ _ h => h) rfl (fun _ _ => rfl) S0.out ?_
                      try simp only [Act.put, lqA, lqB, lqC, lqD, lqE, lqF]
                      refine hm_run 5 104 (.int .i64 ((q : Nat) : Int)) rfl rfl (by kernel_rfl) (by kernel_rfl) (by kernel_rfl) (fun _ _ _ h => h) rfl (fun _ _ => rfl) S0.out ?_
                      try simp only [Act.put, lqA, lqB, lqC, lqD, lqE, lqF]
                      refine hm_run 6 105 (.pointer (some ⟨g, 0 + (q) * 1, none⟩)) rfl rfl (by kernel_rfl) (by kernel_rfl) (by kernel_rfl) (fun _ _ _ h => h) rfl (fun W _ => exec_ix rfl (run_ix (k := 1) (j := q) Tryd.underlying54 (by kernel_rfl) (by have := BND.out; omega) rfl W)) S0.out ?_
                      try simp only [Act.put, lqA, lqB, lqC, lqD, lqE, lqF]
                      refine hm_run 7 106 (.int .u64 ((d2[q]! : Nat) : Int)) rfl rfl (by kernel_rfl) (by kernel_rfl) (by kernel_rfl) (fun _ _ _ h => h) rfl (fun W hW => exec_load rfl (run_load_one Tryd.underlying59 rfl (cell_dn (Lib.hid hW.1) (by have := BND.out; omega)))) S0.out ?_
                      try simp only [Act.put, lqA, lqB, lqC, lqD, lqE, lqF]
                      refine hm_run 8 107 (.slice (some ⟨g, 0, none⟩) n c) rfl rfl (by kernel_rfl) (by kernel_rfl) (by kernel_rfl) (fun _ _ _ h => h) rfl (fun _ _ => rfl) S0.out ?_
                      try simp only [Act.put, lqA, lqB, lqC, lqD, lqE, lqF]
                      refine hm_run 9 108 (.int .i64 ((a : Nat) : Int)) rfl rfl (by kernel_rfl) (by kernel_rfl) (by kernel_rfl) (fun _ _ _ h => h) rfl (fun _ _ => rfl) S0.out ?_
                      try simp only [Act.put, lqA, lqB, lqC, lqD, lqE, lqF]
                      refine hm_run 10 109 (.pointer (some ⟨g, 0 + (a) * 1, none⟩)) rfl rfl (by kernel_rfl) (by kernel_rfl) (by kernel_rfl) (fun _ _ _ h => h) rfl (fun W _ => exec_ix rfl (run_ix (k := 1) (j := a) Tryd.underlying54 (by kernel_rfl) (by have := BND.out; omega) rfl W)) S0.out ?_
                      try simp only [Act.put, lqA, lqB, lqC, lqD, lqE, lqF]
                      refine hm_run 11 110 (.int .u64 ((d2[a]! : Nat) : Int)) rfl rfl (by kernel_rfl) (by kernel_rfl) (by kernel_rfl) (fun _ _ _ h => h) rfl (fun W hW => exec_load rfl (run_load_one Tryd.underlying59 rfl (cell_dn (Lib.hid hW.1) (by have := BND.out; omega)))) S0.out ?_
                      try simp only [Act.put, lqA, lqB, lqC, lqD, lqE, lqF]
                      refine hm_one (i := 12) (by kernel_rfl) ?_
                      refine hm_step 12 rfl (by kernel_rfl) fun K hK => ?_
                      try simp only [Act.put, lqA, lqB, lqC, lqD, lqE, lqF]
                      go_simp
                      go_at_call 58
                      refine (less_any _ _ _).mono ?_
                      rintro e w7 ⟨rfl, rfl⟩
                      rw [LQ.out]
                      refine hK _ _ S0.out ?_
                      clear hK K
                      try simp only [Act.put, lqA, lqB, lqC, lqD, lqE, lqF]
                      refine hm_run 13 112 (.bool true) rfl rfl (by kernel_rfl) (by kernel_rfl) (by kernel_rfl) (fun _ _ _ h => h) rfl (fun _ _ => rfl) S0.out ?_
                      try simp only [Act.put, lqA, lqB, lqC, lqD, lqE, lqF]
                      refine wpAnyH_done (by kernel_rfl) ?_ _
                      go_wp2_with ((with_reducible refine wpList_at 114 rfl ?_); refine wpList_kn rfl (.int .i64 ((q + 1 : Nat) : Int)) (by exact exec_add rfl rfl rfl (by have := BND.out; rw [IntKind.wrap_i64]; omega)) ?_)
                      go_roundg (j + 1 - (q + 1))
                      case measure => have := BND.out; have := KQ.out; omega
                      case rel => exact ⟨q + 1, rfl, by have := BND.out; omega, by have := BND.out; omega, rfl, N, UPX, HB⟩
                    · have LQ := Lib.hid (decide_eq_false hl)
                      obtain rfl : q = I2 := by rw [← UP.out]; exact (up_stop (by simp only [ltN]; exact LQ.out)).symm
                      clear UP hqj hl
                      go_upto_region 13 with fail
                      refine wp_region_T (Φ := fun X => (NRow B X g n c d2 ∧ d2.size = n) ∧ Below B w X) (S := fun X => (NRow B X g n c d2 ∧ d2.size = n) ∧ Below B w X) (Lib.hid ⟨N.out, HB.out⟩) (fun X h => ⟨⟨h.1.1.below ((Below.refl _ _).drew), h.1.2⟩, h.2.drew⟩) (fun X h => h) (by kernel_rfl) ?_
                      clear N HB
                      intro wx TT S0
                      have N := Lib.hid TT.out.1
                      have HB := Lib.hid TT.out.2
                      clear TT
                      refine hm_run 0 99 (.int .i64 ((q : Nat) : Int)) rfl rfl (by kernel_rfl) (by kernel_rfl) (by kernel_rfl) (fun _ _ _ h => h) rfl (fun _ _ => rfl) S0.out ?_
                      try simp only [Act.put, lqA, lqB, lqC, lqD, lqE, lqF]
                      refine hm_run 1 100 (.int .i64 ((j : Nat) : Int)) rfl rfl (by kernel_rfl) (by kernel_rfl) (by kernel_rfl) (fun _ _ _ h => h) rfl (fun _ _ => rfl) S0.out ?_
                      try simp only [Act.put, lqA, lqB, lqC, lqD, lqE, lqF]
                      refine hm_run 2 101 (.bool true) rfl rfl (by kernel_rfl) (by kernel_rfl) (by kernel_rfl) (fun _ _ _ h => h) rfl (fun _ _ => exec_leqN rfl rfl rfl LE.out) S0.out ?_
                      try simp only [Act.put, lqA, lqB, lqC, lqD, lqE, lqF]
                      refine hm_run 3 102 (.bool true) rfl rfl (by kernel_rfl) (by kernel_rfl) (by kernel_rfl) (fun _ _ _ h => h) rfl (fun _ _ => rfl) S0.out ?_
                      try simp only [Act.put, lqA, lqB, lqC, lqD, lqE, lqF]
                      refine hm_run 4 103 (.slice (some ⟨g, 0, none⟩) n c) rfl rfl (by kernel_rfl) (by kernel_rfl) (by kernel_rfl) (fun _ _ _ h => h) rfl (fun _ _ => rfl) S0.out ?_
                      try simp only [Act.put, lqA, lqB, lqC, lqD, lqE, lqF]
                      refine hm_run 5 104 (.int .i64 ((q : Nat) : Int)) rfl rfl (by kernel_rfl) (by kernel_rfl) (by kernel_rfl) (fun _ _ _ h => h) rfl (fun _ _ => rfl) S0.out ?_
                      try simp only [Act.put, lqA, lqB, lqC, lqD, lqE, lqF]
                      refine hm_run 6 105 (.pointer (some ⟨g, 0 + (q) * 1, none⟩)) rfl rfl (by kernel_rfl) (by kernel_rfl) (by kernel_rfl) (fun _ _ _ h => h) rfl (fun W _ => exec_ix rfl (run_ix (k := 1) (j := q) Tryd.underlying54 (by kernel_rfl) (by have := BND.out; omega) rfl W)) S0.out ?_
                      try simp only [Act.put, lqA, lqB, lqC, lqD, lqE, lqF]
                      refine hm_run 7 106 (.int .u64 ((d2[q]! : Nat) : Int)) rfl rfl (by kernel_rfl) (by kernel_rfl) (by kernel_rfl) (fun _ _ _ h => h) rfl (fun W hW => exec_load rfl (run_load_one Tryd.underlying59 rfl (cell_dn (Lib.hid hW.1) (by have := BND.out; omega)))) S0.out ?_
                      try simp only [Act.put, lqA, lqB, lqC, lqD, lqE, lqF]
                      refine hm_run 8 107 (.slice (some ⟨g, 0, none⟩) n c) rfl rfl (by kernel_rfl) (by kernel_rfl) (by kernel_rfl) (fun _ _ _ h => h) rfl (fun _ _ => rfl) S0.out ?_
                      try simp only [Act.put, lqA, lqB, lqC, lqD, lqE, lqF]
                      refine hm_run 9 108 (.int .i64 ((a : Nat) : Int)) rfl rfl (by kernel_rfl) (by kernel_rfl) (by kernel_rfl) (fun _ _ _ h => h) rfl (fun _ _ => rfl) S0.out ?_
                      try simp only [Act.put, lqA, lqB, lqC, lqD, lqE, lqF]
                      refine hm_run 10 109 (.pointer (some ⟨g, 0 + (a) * 1, none⟩)) rfl rfl (by kernel_rfl) (by kernel_rfl) (by kernel_rfl) (fun _ _ _ h => h) rfl (fun W _ => exec_ix rfl (run_ix (k := 1) (j := a) Tryd.underlying54 (by kernel_rfl) (by have := BND.out; omega) rfl W)) S0.out ?_
                      try simp only [Act.put, lqA, lqB, lqC, lqD, lqE, lqF]
                      refine hm_run 11 110 (.int .u64 ((d2[a]! : Nat) : Int)) rfl rfl (by kernel_rfl) (by kernel_rfl) (by kernel_rfl) (fun _ _ _ h => h) rfl (fun W hW => exec_load rfl (run_load_one Tryd.underlying59 rfl (cell_dn (Lib.hid hW.1) (by have := BND.out; omega)))) S0.out ?_
                      try simp only [Act.put, lqA, lqB, lqC, lqD, lqE, lqF]
                      refine hm_one (i := 12) (by kernel_rfl) ?_
                      refine hm_step 12 rfl (by kernel_rfl) fun K hK => ?_
                      try simp only [Act.put, lqA, lqB, lqC, lqD, lqE, lqF]
                      go_simp
                      go_at_call 58
                      refine (less_any _ _ _).mono ?_
                      rintro e w7 ⟨rfl, rfl⟩
                      rw [LQ.out]
                      refine hK _ _ S0.out ?_
                      clear hK K
                      try simp only [Act.put, lqA, lqB, lqC, lqD, lqE, lqF]
                      refine hm_run 13 112 (.bool false) rfl rfl (by kernel_rfl) (by kernel_rfl) (by kernel_rfl) (fun _ _ _ h => h) rfl (fun _ _ => rfl) S0.out ?_
                      try simp only [Act.put, lqA, lqB, lqC, lqD, lqE, lqF]
                      refine wpAnyH_done (by kernel_rfl) ?_ _
                      go_wp2_with fail
                      go_meet
                      exact ⟨rfl, by have := BND.out; omega, by have := BND.out; omega, N, HB⟩
                  · have LE := Lib.hid (show decide ((q : Int) ≤ (j : Int)) = false from decide_eq_false (by omega))
                    obtain rfl : q = I2 := by rw [← UP.out]; exact (up_off hqj).symm
                    clear UP hqj
                    go_upto_region 13 with fail
                    refine wp_region_T (Φ := fun X => (NRow B X g n c d2 ∧ d2.size = n) ∧ Below B w X) (S := fun X => (NRow B X g n c d2 ∧ d2.size = n) ∧ Below B w X) (Lib.hid ⟨N.out, HB.out⟩) (fun X h => ⟨⟨h.1.1.below ((Below.refl _ _).drew), h.1.2⟩, h.2.drew⟩) (fun X h => h) (by kernel_rfl) ?_
                    clear N HB
                    intro wx TT S0
                    have N := Lib.hid TT.out.1
                    have HB := Lib.hid TT.out.2
                    clear TT
                    refine hm_run 0 99 (.int .i64 ((q : Nat) : Int)) rfl rfl (by kernel_rfl) (by kernel_rfl) (by kernel_rfl) (fun _ _ _ h => h) rfl (fun _ _ => rfl) S0.out ?_
                    try simp only [Act.put, lqA, lqB, lqC, lqD, lqE, lqF]
                    refine hm_run 1 100 (.int .i64 ((j : Nat) : Int)) rfl rfl (by kernel_rfl) (by kernel_rfl) (by kernel_rfl) (fun _ _ _ h => h) rfl (fun _ _ => rfl) S0.out ?_
                    try simp only [Act.put, lqA, lqB, lqC, lqD, lqE, lqF]
                    refine hm_run 2 101 (.bool false) rfl rfl (by kernel_rfl) (by kernel_rfl) (by kernel_rfl) (fun _ _ _ h => h) rfl (fun _ _ => exec_leqN rfl rfl rfl LE.out) S0.out ?_
                    try simp only [Act.put, lqA, lqB, lqC, lqD, lqE, lqF]
                    refine hm_run 3 102 (.bool false) rfl rfl (by kernel_rfl) (by kernel_rfl) (by kernel_rfl) (fun _ _ _ h => h) rfl (fun _ _ => rfl) S0.out ?_
                    try simp only [Act.put, lqA, lqB, lqC, lqD, lqE, lqF]
                    refine hm_off 4 103 rfl rfl (by kernel_rfl) (by kernel_rfl) (by kernel_rfl) (fun _ _ _ h => h) rfl S0.out ?_
                    try simp only [Act.put, lqA, lqB, lqC, lqD, lqE, lqF]
                    refine hm_off 5 104 rfl rfl (by kernel_rfl) (by kernel_rfl) (by kernel_rfl) (fun _ _ _ h => h) rfl S0.out ?_
                    try simp only [Act.put, lqA, lqB, lqC, lqD, lqE, lqF]
                    refine hm_off 6 105 rfl rfl (by kernel_rfl) (by kernel_rfl) (by kernel_rfl) (fun _ _ _ h => h) rfl S0.out ?_
                    try simp only [Act.put, lqA, lqB, lqC, lqD, lqE, lqF]
                    refine hm_off 7 106 rfl rfl (by kernel_rfl) (by kernel_rfl) (by kernel_rfl) (fun _ _ _ h => h) rfl S0.out ?_
                    try simp only [Act.put, lqA, lqB, lqC, lqD, lqE, lqF]
                    refine hm_off 8 107 rfl rfl (by kernel_rfl) (by kernel_rfl) (by kernel_rfl) (fun _ _ _ h => h) rfl S0.out ?_
                    try simp only [Act.put, lqA, lqB, lqC, lqD, lqE, lqF]
                    refine hm_off 9 108 rfl rfl (by kernel_rfl) (by kernel_rfl) (by kernel_rfl) (fun _ _ _ h => h) rfl S0.out ?_
                    try simp only [Act.put, lqA, lqB, lqC, lqD, lqE, lqF]
                    refine hm_off 10 109 rfl rfl (by kernel_rfl) (by kernel_rfl) (by kernel_rfl) (fun _ _ _ h => h) rfl S0.out ?_
                    try simp only [Act.put, lqA, lqB, lqC, lqD, lqE, lqF]
                    refine hm_off 11 110 rfl rfl (by kernel_rfl) (by kernel_rfl) (by kernel_rfl) (fun _ _ _ h => h) rfl S0.out ?_
                    try simp only [Act.put, lqA, lqB, lqC, lqD, lqE, lqF]
                    refine hm_off 12 111 rfl rfl (by kernel_rfl) (by kernel_rfl) (by kernel_rfl) (fun _ _ _ h => h) rfl S0.out ?_
                    try simp only [Act.put, lqA, lqB, lqC, lqD, lqE, lqF]
                    refine hm_run 13 112 (.bool false) rfl rfl (by kernel_rfl) (by kernel_rfl) (by kernel_rfl) (fun _ _ _ h => h) rfl (fun _ _ => rfl) S0.out ?_
                    try simp only [Act.put, lqA, lqB, lqC, lqD, lqE, lqF]
                    refine wpAnyH_done (by kernel_rfl) ?_ _
                    go_wp2_with fail
                    go_meet
                    exact ⟨rfl, by have := BND.out; omega, by have := BND.out; omega, N, HB⟩
              case rest =>
                obtain ⟨rfl, haI, hIn, N, HB⟩ := hcut
                have B2 := Lib.hid (show a < I2 ∧ I2 ≤ n + 1 ∧ j < b ∧ a < b ∧ b ≤ n ∧ n ≤ 20000 by have := B1.out; omega)
                clear haI hIn
                go_upto_block 8 with fail
                try simp only [Act.put, lqA, lqB, lqC, lqD, lqE, lqF]
                go_cut [11] (fun s11 wx => s11 = .int .i64 (J2 : Int) ∧ J2 ≤ j ∧ Hid (NRow B wx g n c d2 ∧ d2.size = n) ∧ Hid (Below B w wx))
                case first =>
                  go_wp2_with fail
                  go_loopg [11] j (fun k s11 wr => k ≤ j ∧ s11 = .int .i64 (k : Int) ∧ Hid (NRow B wr g n c d2 ∧ d2.size = n) ∧ Hid (Go.Sort.scanDown (fun x => !ltN x d2[a]!) d2 I2 k = J2) ∧ Hid (Below B w wr))
                  case atStart => exact ⟨Nat.le_refl _, rfl, N, DN, HB⟩
                  case round =>
                    clear N DN HB
                    obtain ⟨hpj, rfl, N, DN, HB⟩ := hrel
                    obtain ⟨p, rfl⟩ : ∃ p : Nat, p = gk := ⟨_, rfl⟩
                    obtain ⟨q, hq⟩ : ∃ q, q = I2 := ⟨_, rfl⟩
                    subst hq
                    obtain ⟨D2, hD2⟩ : ∃ D, D = wr := ⟨_, rfl⟩
                    subst hD2
                    have BND := Lib.hid (And.intro hpj B2.out)
                    clear hpj
                    by_cases hqp : q ≤ p
                    · have LE := Lib.hid (show decide ((q : Int) ≤ (p : Int)) = true from decide_eq_true (by omega))
                      replace BND := Lib.hid (And.intro hqp BND.out)
                      by_cases hl : d2[p]! < d2[a]!
                      · have LQ := Lib.hid (decide_eq_true hl)
                        obtain rfl : p = J2 := by rw [← DN.out]; exact (dn_stop (by simp only [ltN]; rw [LQ.out]; rfl)).symm
                        clear DN hqp hl
                        go_upto_region 15 with fail
                        refine wp_region_T (Φ := fun X => (NRow B X g n c d2 ∧ d2.size = n) ∧ Below B w X) (S := fun X => (NRow B X g n c d2 ∧ d2.size = n) ∧ Below B w X) (Lib.hid ⟨N.out, HB.out⟩) (fun X h => ⟨⟨h.1.1.below ((Below.refl _ _).drew), h.1.2⟩, h.2.drew⟩) (fun X h => h) (by kernel_rfl) ?_
                        clear N HB
                        intro wx TT S0
                        have N := Lib.hid TT.out.1
                        have HB := Lib.hid TT.out.2
                        clear TT
                        refine hm_run 0 115 (.int .i64 ((q : Nat) : Int)) rfl rfl (by kernel_rfl) (by kernel_rfl) (by kernel_rfl) (fun _ _ _ h => h) rfl (fun _ _ => rfl) S0.out ?_
                        try simp only [Act.put, lqA, lqB, lqC, lqD, lqE, lqF]
                        refine hm_run 1 116 (.int .i64 ((p : Nat) : Int)) rfl rfl (by kernel_rfl) (by kernel_rfl) (by kernel_rfl) (fun _ _ _ h => h) rfl (fun _ _ => rfl) S0.out ?_
                        try simp only [Act.put, lqA, lqB, lqC, lqD, lqE, lqF]
                        refine hm_run 2 117 (.bool true) rfl rfl (by kernel_rfl) (by kernel_rfl) (by kernel_rfl) (fun _ _ _ h => h) rfl (fun _ _ => exec_leqN rfl rfl rfl LE.out) S0.out ?_
                        try simp only [Act.put, lqA, lqB, lqC, lqD, lqE, lqF]
                        refine hm_run 3 118 (.bool true) rfl rfl (by kernel_rfl) (by kernel_rfl) (by kernel_rfl) (fun _ _ _ h => h) rfl (fun _ _ => rfl) S0.out ?_
                        try simp only [Act.put, lqA, lqB, lqC, lqD, lqE, lqF]
                        refine hm_run 4 119 (.slice (some ⟨g, 0, none⟩) n c) rfl rfl (by kernel_rfl) (by kernel_rfl) (by kernel_rfl) (fun _ _ _ h => h) rfl (fun _ _ => rfl) S0.out ?_
                        try simp only [Act.put, lqA, lqB, lqC, lqD, lqE, lqF]
                        refine hm_run 5 120 (.int .i64 ((p : Nat) : Int)) rfl rfl (by kernel_rfl) (by kernel_rfl) (by kernel_rfl) (fun _ _ _ h => h) rfl (fun _ _ => rfl) S0.out ?_
                        try simp only [Act.put, lqA, lqB, lqC, lqD, lqE, lqF]
                        refine hm_run 6 121 (.pointer (some ⟨g, 0 + (p) * 1, none⟩)) rfl rfl (by kernel_rfl) (by kernel_rfl) (by kernel_rfl) (fun _ _ _ h => h) rfl (fun W _ => exec_ix rfl (run_ix (k := 1) (j := p) Tryd.underlying54 (by kernel_rfl) (by have := BND.out; omega) rfl W)) S0.out ?_
                        try simp only [Act.put, lqA, lqB, lqC, lqD, lqE, lqF]
                        refine hm_run 7 122 (.int .u64 ((d2[p]! : Nat) : Int)) rfl rfl (by kernel_rfl) (by kernel_rfl) (by kernel_rfl) (fun _ _ _ h => h) rfl (fun W hW => exec_load rfl (run_load_one Tryd.underlying59 rfl (cell_dn (Lib.hid hW.1) (by have := BND.out; omega)))) S0.out ?_
                        try simp only [Act.put, lqA, lqB, lqC, lqD, lqE, lqF]
                        refine hm_run 8 123 (.slice (some ⟨g, 0, none⟩) n c) rfl rfl (by kernel_rfl) (by kernel_rfl) (by kernel_rfl) (fun _ _ _ h => h) rfl (fun _ _ => rfl) S0.out ?_
                        try simp only [Act.put, lqA, lqB, lqC, lqD, lqE, lqF]
                        refine hm_run 9 124 (.int .i64 ((a : Nat) : Int)) rfl rfl (by kernel_rfl) (by kernel_rfl) (by kernel_rfl) (fun _ _ _ h => h) rfl (fun _ _ => rfl) S0.out ?_
                        try simp only [Act.put, lqA, lqB, lqC, lqD, lqE, lqF]
                        refine hm_run 10 125 (.pointer (some ⟨g, 0 + (a) * 1, none⟩)) rfl rfl (by kernel_rfl) (by kernel_rfl) (by kernel_rfl) (fun _ _ _ h => h) rfl (fun W _ => exec_ix rfl (run_ix (k := 1) (j := a) Tryd.underlying54 (by kernel_rfl) (by have := BND.out; omega) rfl W)) S0.out ?_
                        try simp only [Act.put, lqA, lqB, lqC, lqD, lqE, lqF]
                        refine hm_run 11 126 (.int .u64 ((d2[a]! : Nat) : Int)) rfl rfl (by kernel_rfl) (by kernel_rfl) (by kernel_rfl) (fun _ _ _ h => h) rfl (fun W hW => exec_load rfl (run_load_one Tryd.underlying59 rfl (cell_dn (Lib.hid hW.1) (by have := BND.out; omega)))) S0.out ?_
                        try simp only [Act.put, lqA, lqB, lqC, lqD, lqE, lqF]
                        refine hm_one (i := 12) (by kernel_rfl) ?_
                        refine hm_step 12 rfl (by kernel_rfl) fun K hK => ?_
                        try simp only [Act.put, lqA, lqB, lqC, lqD, lqE, lqF]
                        go_simp
                        go_at_call 58
                        refine (less_any _ _ _).mono ?_
                        rintro e w7 ⟨rfl, rfl⟩
                        rw [LQ.out]
                        refine hK _ _ S0.out ?_
                        clear hK K
                        try simp only [Act.put, lqA, lqB, lqC, lqD, lqE, lqF]
                        refine hm_run 13 128 (.bool false) rfl rfl (by kernel_rfl) (by kernel_rfl) (by kernel_rfl) (fun _ _ _ h => h) rfl (fun _ _ => rfl) S0.out ?_
                        try simp only [Act.put, lqA, lqB, lqC, lqD, lqE, lqF]
                        refine hm_run 14 129 (.bool false) rfl rfl (by kernel_rfl) (by kernel_rfl) (by kernel_rfl) (fun _ _ _ h => h) rfl (fun _ _ => rfl) S0.out ?_
                        try simp only [Act.put, lqA, lqB, lqC, lqD, lqE, lqF]
                        refine wpAnyH_done (by kernel_rfl) ?_ _
                        go_wp2_with fail
                        go_meet
                        exact ⟨rfl, by have := BND.out; omega, N, HB⟩
                      · have LQ := Lib.hid (decide_eq_false hl)
                        have DNX := Lib.hid (show Go.Sort.scanDown (fun x => !ltN x d2[a]!) d2 q (p - 1) = J2 by rw [← DN.out]; exact (dn_go (by have := BND.out; omega) hqp (by simp only [ltN]; rw [LQ.out]; rfl)).symm)
                        clear DN hqp hl
                        go_upto_region 15 with fail
                        refine wp_region_T (Φ := fun X => (NRow B X g n c d2 ∧ d2.size = n) ∧ Below B w X) (S := fun X => (NRow B X g n c d2 ∧ d2.size = n) ∧ Below B w X) (Lib.hid ⟨N.out, HB.out⟩) (fun X h => ⟨⟨h.1.1.below ((Below.refl _ _).drew), h.1.2⟩, h.2.drew⟩) (fun X h => h) (by kernel_rfl) ?_
                        clear N HB
                        intro wx TT S0
                        have N := Lib.hid TT.out.1
                        have HB := Lib.hid TT.out.2
                        clear TT
                        refine hm_run 0 115 (.int .i64 ((q : Nat) : Int)) rfl rfl (by kernel_rfl) (by kernel_rfl) (by kernel_rfl) (fun _ _ _ h => h) rfl (fun _ _ => rfl) S0.out ?_
                        try simp only [Act.put, lqA, lqB, lqC, lqD, lqE, lqF]
                        refine hm_run 1 116 (.int .i64 ((p : Nat) : Int)) rfl rfl (by kernel_rfl) (by kernel_rfl) (by kernel_rfl) (fun _ _ _ h => h) rfl (fun _ _ => rfl) S0.out ?_
                        try simp only [Act.put, lqA, lqB, lqC, lqD, lqE, lqF]
                        refine hm_run 2 117 (.bool true) rfl rfl (by kernel_rfl) (by kernel_rfl) (by kernel_rfl) (fun _ _ _ h => h) rfl (fun _ _ => exec_leqN rfl rfl rfl LE.out) S0.out ?_
                        try simp only [Act.put, lqA, lqB, lqC, lqD, lqE, lqF]
                        refine hm_run 3 118 (.bool true) rfl rfl (by kernel_rfl) (by kernel_rfl) (by kernel_rfl) (fun _ _ _ h => h) rfl (fun _ _ => rfl) S0.out ?_
                        try simp only [Act.put, lqA, lqB, lqC, lqD, lqE, lqF]
                        refine hm_run 4 119 (.slice (some ⟨g, 0, none⟩) n c) rfl rfl (by kernel_rfl) (by kernel_rfl) (by kernel_rfl) (fun _ _ _ h => h) rfl (fun _ _ => rfl) S0.out ?_
                        try simp only [Act.put, lqA, lqB, lqC, lqD, lqE, lqF]
                        refine hm_run 5 120 (.int .i64 ((p : Nat) : Int)) rfl rfl (by kernel_rfl) (by kernel_rfl) (by kernel_rfl) (fun _ _ _ h => h) rfl (fun _ _ => rfl) S0.out ?_
                        try simp only [Act.put, lqA, lqB, lqC, lqD, lqE, lqF]
                        refine hm_run 6 121 (.pointer (some ⟨g, 0 + (p) * 1, none⟩)) rfl rfl (by kernel_rfl) (by kernel_rfl) (by kernel_rfl) (fun _ _ _ h => h) rfl (fun W _ => exec_ix rfl (run_ix (k := 1) (j := p) Tryd.underlying54 (by kernel_rfl) (by have := BND.out; omega) rfl W)) S0.out ?_
                        try simp only [Act.put, lqA, lqB, lqC, lqD, lqE, lqF]
                        refine hm_run 7 122 (.int .u64 ((d2[p]! : Nat) : Int)) rfl rfl (by kernel_rfl) (by kernel_rfl) (by kernel_rfl) (fun _ _ _ h => h) rfl (fun W hW => exec_load rfl (run_load_one Tryd.underlying59 rfl (cell_dn (Lib.hid hW.1) (by have := BND.out; omega)))) S0.out ?_
                        try simp only [Act.put, lqA, lqB, lqC, lqD, lqE, lqF]
                        refine hm_run 8 123 (.slice (some ⟨g, 0, none⟩) n c) rfl rfl (by kernel_rfl) (by kernel_rfl) (by kernel_rfl) (fun _ _ _ h => h) rfl (fun _ _ => rfl) S0.out ?_
                        try simp only [Act.put, lqA, lqB, lqC, lqD, lqE, lqF]
                        refine hm_run 9 124 (.int .i64 ((a : Nat) : Int)) rfl rfl (by kernel_rfl) (by kernel_rfl) (by kernel_rfl) (fun _ _ _ h => h) rfl (fun _ _ => rfl) S0.out ?_
                        try simp only [Act.put, lqA, lqB, lqC, lqD, lqE, lqF]
                        refine hm_run 10 125 (.pointer (some ⟨g, 0 + (a) * 1, none⟩)) rfl rfl (by kernel_rfl) (by kernel_rfl) (by kernel_rfl) (fun _ _ _ h => h) rfl (fun W _ => exec_ix rfl (run_ix (k := 1) (j := a) Tryd.underlying54 (by kernel_rfl) (by have := BND.out; omega) rfl W)) S0.out ?_
                        try simp only [Act.put, lqA, lqB, lqC, lqD, lqE, lqF]
                        refine hm_run 11 126 (.int .u64 ((d2[a]! : Nat) : Int)) rfl rfl (by kernel_rfl) (by kernel_rfl) (by kernel_rfl) (fun _ _ _ h => h) rfl (fun W hW => exec_load rfl (run_load_one Tryd.underlying59 rfl (cell_dn (Lib.hid hW.1) (by have := BND.out; omega)))) S0.out ?_
                        try simp only [Act.put, lqA, lqB, lqC, lqD, lqE, lqF]
                        refine hm_one (i := 12) (by kernel_rfl) ?_
                        refine hm_step 12 rfl (by kernel_rfl) fun K hK => ?_
                        try simp only [Act.put, lqA, lqB, lqC, lqD, lqE, lqF]
                        go_simp
                        go_at_call 58
                        refine (less_any _ _ _).mono ?_
                        rintro e w7 ⟨rfl, rfl⟩
                        rw [LQ.out]
                        refine hK _ _ S0.out ?_
                        clear hK K
                        try simp only [Act.put, lqA, lqB, lqC, lqD, lqE, lqF]
                        refine hm_run 13 128 (.bool true) rfl rfl (by kernel_rfl) (by kernel_rfl) (by kernel_rfl) (fun _ _ _ h => h) rfl (fun _ _ => rfl) S0.out ?_
                        try simp only [Act.put, lqA, lqB, lqC, lqD, lqE, lqF]
                        refine hm_run 14 129 (.bool true) rfl rfl (by kernel_rfl) (by kernel_rfl) (by kernel_rfl) (fun _ _ _ h => h) rfl (fun _ _ => rfl) S0.out ?_
                        try simp only [Act.put, lqA, lqB, lqC, lqD, lqE, lqF]
                        refine wpAnyH_done (by kernel_rfl) ?_ _
                        go_wp2_with ((with_reducible refine wpList_at 131 rfl ?_); refine wpList_kn rfl (.int .i64 ((p - 1 : Nat) : Int)) (by exact exec_sub rfl rfl rfl (by have := BND.out; rw [IntKind.wrap_i64]; omega)) ?_)
                        go_roundg (p - 1)
                        case measure => have := BND.out; omega
                        case rel => exact ⟨by have := BND.out; omega, rfl, N, DNX, HB⟩
                    · have LE := Lib.hid (show decide ((q : Int) ≤ (p : Int)) = false from decide_eq_false (by omega))
                      obtain rfl : p = J2 := by rw [← DN.out]; exact (dn_off hqp).symm
                      clear DN hqp
                      go_upto_region 15 with fail
                      refine wp_region_T (Φ := fun X => (NRow B X g n c d2 ∧ d2.size = n) ∧ Below B w X) (S := fun X => (NRow B X g n c d2 ∧ d2.size = n) ∧ Below B w X) (Lib.hid ⟨N.out, HB.out⟩) (fun X h => ⟨⟨h.1.1.below ((Below.refl _ _).drew), h.1.2⟩, h.2.drew⟩) (fun X h => h) (by kernel_rfl) ?_
                      clear N HB
                      intro wx TT S0
                      have N := Lib.hid TT.out.1
                      have HB := Lib.hid TT.out.2
                      clear TT
                      refine hm_run 0 115 (.int .i64 ((q : Nat) : Int)) rfl rfl (by kernel_rfl) (by kernel_rfl) (by kernel_rfl) (fun _ _ _ h => h) rfl (fun _ _ => rfl) S0.out ?_
                      try simp only [Act.put, lqA, lqB, lqC, lqD, lqE, lqF]
                      refine hm_run 1 116 (.int .i64 ((p : Nat) : Int)) rfl rfl (by kernel_rfl) (by kernel_rfl) (by kernel_rfl) (fun _ _ _ h => h) rfl (fun _ _ => rfl) S0.out ?_
                      try simp only [Act.put, lqA, lqB, lqC, lqD, lqE, lqF]
                      refine hm_run 2 117 (.bool false) rfl rfl (by kernel_rfl) (by kernel_rfl) (by kernel_rfl) (fun _ _ _ h => h) rfl (fun _ _ => exec_leqN rfl rfl rfl LE.out) S0.out ?_
                      try simp only [Act.put, lqA, lqB, lqC, lqD, lqE, lqF]
                      refine hm_run 3 118 (.bool false) rfl rfl (by kernel_rfl) (by kernel_rfl) (by kernel_rfl) (fun _ _ _ h => h) rfl (fun _ _ => rfl) S0.out ?_
                      try simp only [Act.put, lqA, lqB, lqC, lqD, lqE, lqF]
                      refine hm_off 4 119 rfl rfl (by kernel_rfl) (by kernel_rfl) (by kernel_rfl) (fun _ _ _ h => h) rfl S0.out ?_
                      try simp only [Act.put, lqA, lqB, lqC, lqD, lqE, lqF]
                      refine hm_off 5 120 rfl rfl (by kernel_rfl) (by kernel_rfl) (by kernel_rfl) (fun _ _ _ h => h) rfl S0.out ?_
                      try simp only [Act.put, lqA, lqB, lqC, lqD, lqE, lqF]
                      refine hm_off 6 121 rfl rfl (by kernel_rfl) (by kernel_rfl) (by kernel_rfl) (fun _ _ _ h => h) rfl S0.out ?_
                      try simp only [Act.put, lqA, lqB, lqC, lqD, lqE, lqF]
                      refine hm_off 7 122 rfl rfl (by kernel_rfl) (by kernel_rfl) (by kernel_rfl) (fun _ _ _ h => h) rfl S0.out ?_
                      try simp only [Act.put, lqA, lqB, lqC, lqD, lqE, lqF]
                      refine hm_off 8 123 rfl rfl (by kernel_rfl) (by kernel_rfl) (by kernel_rfl) (fun _ _ _ h => h) rfl S0.out ?_
                      try simp only [Act.put, lqA, lqB, lqC, lqD, lqE, lqF]
                      refine hm_off 9 124 rfl rfl (by kernel_rfl) (by kernel_rfl) (by kernel_rfl) (fun _ _ _ h => h) rfl S0.out ?_
                      try simp only [Act.put, lqA, lqB, lqC, lqD, lqE, lqF]
                      refine hm_off 10 125 rfl rfl (by kernel_rfl) (by kernel_rfl) (by kernel_rfl) (fun _ _ _ h => h) rfl S0.out ?_
                      try simp only [Act.put, lqA, lqB, lqC, lqD, lqE, lqF]
                      refine hm_off 11 126 rfl rfl (by kernel_rfl) (by kernel_rfl) (by kernel_rfl) (fun _ _ _ h => h) rfl S0.out ?_
                      try simp only [Act.put, lqA, lqB, lqC, lqD, lqE, lqF]
                      refine hm_off 12 127 rfl rfl (by kernel_rfl) (by kernel_rfl) (by kernel_rfl) (fun _ _ _ h => h) rfl S0.out ?_
                      try simp only [Act.put, lqA, lqB, lqC, lqD, lqE, lqF]
                      refine hm_off 13 128 rfl rfl (by kernel_rfl) (by kernel_rfl) (by kernel_rfl) (fun _ _ _ h => h) rfl S0.out ?_
                      try simp only [Act.put, lqA, lqB, lqC, lqD, lqE, lqF]
                      refine hm_run 14 129 (.bool false) rfl rfl (by kernel_rfl) (by kernel_rfl) (by kernel_rfl) (fun _ _ _ h => h) rfl (fun _ _ => rfl) S0.out ?_
                      try simp only [Act.put, lqA, lqB, lqC, lqD, lqE, lqF]
                      refine wpAnyH_done (by kernel_rfl) ?_ _
                      go_wp2_with fail
                      go_meet
                      exact ⟨rfl, by have := BND.out; omega, N, HB⟩
                case rest =>
                  obtain ⟨rfl, hJj, N, HB⟩ := hcut
                  have BND := Lib.hid (And.intro hJj B2.out)
                  clear hJj
                  by_cases hgt : I2 > J2
                  · have GT := Lib.hid (show decide ((J2 : Int) < (I2 : Int)) = true from decide_eq_true (by omega))
                    have RX := Lib.hid (show (J2, false, Go.Sort.swp d2 J2 a) = R by have h := OUT.out; rw [if_pos hgt] at h; rw [← RO.out, ← h])
                    clear OUT hgt
                    go_upto_region 21 with ((with_reducible refine wpList_at 134 rfl ?_); refine wpList_kn rfl (.bool true) (by exact exec_gtrN rfl rfl rfl GT.out) ?_)
                    refine wp_region_T (Φ := fun X => (NRow B X g n c d2 ∧ d2.size = n) ∧ Below B w X) (S := fun _ => True) (Lib.hid ⟨N.out, HB.out⟩) (fun X h => ⟨⟨h.1.1.below ((Below.refl _ _).drew), h.1.2⟩, h.2.drew⟩) (fun _ _ => trivial) (by kernel_rfl) ?_
                    clear N HB
                    intro wx TT S0
                    have N := Lib.hid TT.out.1
                    have HB := Lib.hid TT.out.2
                    clear TT
                    refine hm_run 0 153 (.slice (some ⟨g, 0, none⟩) n c) rfl rfl (by kernel_rfl) (by kernel_rfl) (by kernel_rfl) (fun _ _ _ h => h) rfl (fun _ _ => rfl) trivial ?_
                    try simp only [Act.put, lqA, lqB, lqC, lqD, lqE, lqF]
                    refine hm_run 1 154 (.int .i64 ((J2 : Nat) : Int)) rfl rfl (by kernel_rfl) (by kernel_rfl) (by kernel_rfl) (fun _ _ _ h => h) rfl (fun _ _ => rfl) trivial ?_
                    try simp only [Act.put, lqA, lqB, lqC, lqD, lqE, lqF]
                    refine hm_run 2 155 (.slice (some ⟨g, 0, none⟩) n c) rfl rfl (by kernel_rfl) (by kernel_rfl) (by kernel_rfl) (fun _ _ _ h => h) rfl (fun _ _ => rfl) trivial ?_
                    try simp only [Act.put, lqA, lqB, lqC, lqD, lqE, lqF]
                    refine hm_run 3 156 (.int .i64 ((a : Nat) : Int)) rfl rfl (by kernel_rfl) (by kernel_rfl) (by kernel_rfl) (fun _ _ _ h => h) rfl (fun _ _ => rfl) trivial ?_
                    try simp only [Act.put, lqA, lqB, lqC, lqD, lqE, lqF]
                    refine hm_run 4 157 (.slice (some ⟨g, 0, none⟩) n c) rfl rfl (by kernel_rfl) (by kernel_rfl) (by kernel_rfl) (fun _ _ _ h => h) rfl (fun _ _ => rfl) trivial ?_
                    try simp only [Act.put, lqA, lqB, lqC, lqD, lqE, lqF]
                    refine hm_run 5 158 (.int .i64 ((a : Nat) : Int)) rfl rfl (by kernel_rfl) (by kernel_rfl) (by kernel_rfl) (fun _ _ _ h => h) rfl (fun _ _ => rfl) trivial ?_
                    try simp only [Act.put, lqA, lqB, lqC, lqD, lqE, lqF]
                    refine hm_run 6 159 (.pointer (some ⟨g, 0 + (a) * 1, none⟩)) rfl rfl (by kernel_rfl) (by kernel_rfl) (by kernel_rfl) (fun _ _ _ h => h) rfl (fun W _ => exec_ix rfl (run_ix (k := 1) (j := a) Tryd.underlying54 (by kernel_rfl) (by have := BND.out; omega) rfl W)) trivial ?_
                    try simp only [Act.put, lqA, lqB, lqC, lqD, lqE, lqF]
                    refine hm_run 8 161 (.slice (some ⟨g, 0, none⟩) n c) rfl rfl (by kernel_rfl) (by kernel_rfl) (by kernel_rfl) (fun _ _ _ h => h) rfl (fun _ _ => rfl) trivial ?_
                    try simp only [Act.put, lqA, lqB, lqC, lqD, lqE, lqF]
                    refine hm_run 9 162 (.int .i64 ((J2 : Nat) : Int)) rfl rfl (by kernel_rfl) (by kernel_rfl) (by kernel_rfl) (fun _ _ _ h => h) rfl (fun _ _ => rfl) trivial ?_
                    try simp only [Act.put, lqA, lqB, lqC, lqD, lqE, lqF]
                    refine hm_run 10 163 (.pointer (some ⟨g, 0 + (J2) * 1, none⟩)) rfl rfl (by kernel_rfl) (by kernel_rfl) (by kernel_rfl) (fun _ _ _ h => h) rfl (fun W _ => exec_ix rfl (run_ix (k := 1) (j := J2) Tryd.underlying54 (by kernel_rfl) (by have := BND.out; omega) rfl W)) trivial ?_
                    try simp only [Act.put, lqA, lqB, lqC, lqD, lqE, lqF]
                    refine hm_two (i := 7) (j := 11) (by kernel_rfl) ?_ ?_
                    · refine hm_step 7 rfl (by kernel_rfl) fun K hK => ?_
                      try simp only [Act.put, lqA, lqB, lqC, lqD, lqE, lqF]
                      refine mo_known (.int .u64 ((d2[a]! : Nat) : Int)) _ (exec_load rfl (run_load_one Tryd.underlying59 rfl (cell_dn N (by have := BND.out; omega)))) ?_
                      refine hK _ _ trivial ?_
                      clear hK K
                      try simp only [Act.put, lqA, lqB, lqC, lqD, lqE, lqF]
                      refine hm_one (i := 11) (by kernel_rfl) ?_
                      refine hm_step 11 rfl (by kernel_rfl) fun K hK => ?_
                      try simp only [Act.put, lqA, lqB, lqC, lqD, lqE, lqF]
                      refine mo_known (.int .u64 ((d2[J2]! : Nat) : Int)) _ (exec_load rfl (run_load_one Tryd.underlying59 rfl (cell_dn N (by have := BND.out; omega)))) ?_
                      refine hK _ _ trivial ?_
                      clear hK K
                      try simp only [Act.put, lqA, lqB, lqC, lqD, lqE, lqF]
                      refine hm_run 12 165 (.pointer (some ⟨g, 0 + (J2) * 1, none⟩)) rfl rfl (by kernel_rfl) (by kernel_rfl) (by kernel_rfl) (fun _ _ _ h => h) rfl (fun W _ => exec_ix rfl (run_ix (k := 1) (j := J2) Tryd.underlying54 (by kernel_rfl) (by have := BND.out; omega) rfl W)) trivial ?_
                      try simp only [Act.put, lqA, lqB, lqC, lqD, lqE, lqF]
                      refine hm_one (i := 13) (by kernel_rfl) ?_
                      refine hm_step 13 rfl (by kernel_rfl) fun K hK => ?_
                      try simp only [Act.put, lqA, lqB, lqC, lqD, lqE, lqF]
                      refine mo_vput (i := J2) (v := d2[a]!) (.tmp 165) (.tmp 160) rfl N rfl rfl (by have := BND.out; omega) ?_
                      clear N
                      intro w9 N hb9
                      replace HB := Lib.hid (HB.out.trans hb9.out)
                      clear hb9
                      refine hK _ _ trivial ?_
                      clear hK K
                      try simp only [Act.put, lqA, lqB, lqC, lqD, lqE, lqF]
                      refine hm_run 14 166 (.pointer (some ⟨g, 0 + (a) * 1, none⟩)) rfl rfl (by kernel_rfl) (by kernel_rfl) (by kernel_rfl) (fun _ _ _ h => h) rfl (fun W _ => exec_ix rfl (run_ix (k := 1) (j := a) Tryd.underlying54 (by kernel_rfl) (by have := BND.out; omega) rfl W)) trivial ?_
                      try simp only [Act.put, lqA, lqB, lqC, lqD, lqE, lqF]
                      refine hm_one (i := 15) (by kernel_rfl) ?_
                      refine hm_step 15 rfl (by kernel_rfl) fun K hK => ?_
                      try simp only [Act.put, lqA, lqB, lqC, lqD, lqE, lqF]
                      refine mo_vput (i := a) (v := d2[J2]!) (.tmp 166) (.tmp 164) rfl N rfl rfl (by have := BND.out; omega) ?_
                      clear N
                      intro w9 N hb9
                      replace HB := Lib.hid (HB.out.trans hb9.out)
                      clear hb9
                      refine hK _ _ trivial ?_
                      clear hK K
                      try simp only [Act.put, lqA, lqB, lqC, lqD, lqE, lqF]
                      refine wpAnyH_done (by kernel_rfl) ?_ _
                      go_wp2_with fail
                      ((try simp only [Exit.inBlock, Exit.then]); refine bodyPost_ret (results_tmp2 rfl _ _ _) rfl ?_)
                      exact ⟨by rw [← RX.out]; rfl, by rw [← RX.out]; exact N.out, HB.out⟩
                    · refine hm_step 11 rfl (by kernel_rfl) fun K hK => ?_
                      try simp only [Act.put, lqA, lqB, lqC, lqD, lqE, lqF]
                      refine mo_known (.int .u64 ((d2[J2]! : Nat) : Int)) _ (exec_load rfl (run_load_one Tryd.underlying59 rfl (cell_dn N (by have := BND.out; omega)))) ?_
                      refine hK _ _ trivial ?_
                      clear hK K
                      try simp only [Act.put, lqA, lqB, lqC, lqD, lqE, lqF]
                      refine hm_one (i := 7) (by kernel_rfl) ?_
                      refine hm_step 7 rfl (by kernel_rfl) fun K hK => ?_
                      try simp only [Act.put, lqA, lqB, lqC, lqD, lqE, lqF]
                      refine mo_known (.int .u64 ((d2[a]! : Nat) : Int)) _ (exec_load rfl (run_load_one Tryd.underlying59 rfl (cell_dn N (by have := BND.out; omega)))) ?_
                      refine hK _ _ trivial ?_
                      clear hK K
                      try simp only [Act.put, lqA, lqB, lqC, lqD, lqE, lqF]
                      refine hm_run 12 165 (.pointer (some ⟨g, 0 + (J2) * 1, none⟩)) rfl rfl (by kernel_rfl) (by kernel_rfl) (by kernel_rfl) (fun _ _ _ h => h) rfl (fun W _ => exec_ix rfl (run_ix (k := 1) (j := J2) Tryd.underlying54 (by kernel_rfl) (by have := BND.out; omega) rfl W)) trivial ?_
                      try simp only [Act.put, lqA, lqB, lqC, lqD, lqE, lqF]
                      refine hm_one (i := 13) (by kernel_rfl) ?_
                      refine hm_step 13 rfl (by kernel_rfl) fun K hK => ?_
                      try simp only [Act.put, lqA, lqB, lqC, lqD, lqE, lqF]
                      refine mo_vput (i := J2) (v := d2[a]!) (.tmp 165) (.tmp 160) rfl N rfl rfl (by have := BND.out; omega) ?_
                      clear N
                      intro w9 N hb9
                      replace HB := Lib.hid (HB.out.trans hb9.out)
                      clear hb9
                      refine hK _ _ trivial ?_
                      clear hK K
                      try simp only [Act.put, lqA, lqB, lqC, lqD, lqE, lqF]
                      refine hm_run 14 166 (.pointer (some ⟨g, 0 + (a) * 1, none⟩)) rfl rfl (by kernel_rfl) (by kernel_rfl) (by kernel_rfl) (fun _ _ _ h => h) rfl (fun W _ => exec_ix rfl (run_ix (k := 1) (j := a) Tryd.underlying54 (by kernel_rfl) (by have := BND.out; omega) rfl W)) trivial ?_
                      try simp only [Act.put, lqA, lqB, lqC, lqD, lqE, lqF]
                      refine hm_one (i := 15) (by kernel_rfl) ?_
                      refine hm_step 15 rfl (by kernel_rfl) fun K hK => ?_
                      try simp only [Act.put, lqA, lqB, lqC, lqD, lqE, lqF]
                      refine mo_vput (i := a) (v := d2[J2]!) (.tmp 166) (.tmp 164) rfl N rfl rfl (by have := BND.out; omega) ?_
                      clear N
                      intro w9 N hb9
                      replace HB := Lib.hid (HB.out.trans hb9.out)
                      clear hb9
                      refine hK _ _ trivial ?_
                      clear hK K
                      try simp only [Act.put, lqA, lqB, lqC, lqD, lqE, lqF]
                      refine wpAnyH_done (by kernel_rfl) ?_ _
                      go_wp2_with fail
                      ((try simp only [Exit.inBlock, Exit.then]); refine bodyPost_ret (results_tmp2 rfl _ _ _) rfl ?_)
                      exact ⟨by rw [← RX.out]; rfl, by rw [← RX.out]; exact N.out, HB.out⟩
                  · have GT := Lib.hid (show decide ((J2 : Int) < (I2 : Int)) = false from decide_eq_false (by omega))
                    replace BND := Lib.hid (And.intro (Nat.le_of_not_gt hgt) BND.out)
                    have INX := Lib.hid (show Go.Sort.partLoop ltN a (I2 + 1) (J2 - 1) (Go.Sort.swp d2 I2 J2) = RR by have h := OUT.out; rw [if_neg hgt] at h; exact h)
                    clear OUT hgt
                    go_upto_region 18 with ((with_reducible refine wpList_at 134 rfl ?_); refine wpList_kn rfl (.bool false) (by exact exec_gtrN rfl rfl rfl GT.out) ?_)
                    refine wp_region_T (Φ := fun X => (NRow B X g n c d2 ∧ d2.size = n) ∧ Below B w X) (S := fun _ => True) (Lib.hid ⟨N.out, HB.out⟩) (fun X h => ⟨⟨h.1.1.below ((Below.refl _ _).drew), h.1.2⟩, h.2.drew⟩) (fun _ _ => trivial) (by kernel_rfl) ?_
                    clear N HB
                    intro wx TT S0
                    have N := Lib.hid TT.out.1
                    have HB := Lib.hid TT.out.2
                    clear TT
                    refine hm_run 0 135 (.slice (some ⟨g, 0, none⟩) n c) rfl rfl (by kernel_rfl) (by kernel_rfl) (by kernel_rfl) (fun _ _ _ h => h) rfl (fun _ _ => rfl) trivial ?_
                    try simp only [Act.put, lqA, lqB, lqC, lqD, lqE, lqF]
                    refine hm_run 1 136 (.int .i64 ((I2 : Nat) : Int)) rfl rfl (by kernel_rfl) (by kernel_rfl) (by kernel_rfl) (fun _ _ _ h => h) rfl (fun _ _ => rfl) trivial ?_
                    try simp only [Act.put, lqA, lqB, lqC, lqD, lqE, lqF]
                    refine hm_run 2 137 (.slice (some ⟨g, 0, none⟩) n c) rfl rfl (by kernel_rfl) (by kernel_rfl) (by kernel_rfl) (fun _ _ _ h => h) rfl (fun _ _ => rfl) trivial ?_
                    try simp only [Act.put, lqA, lqB, lqC, lqD, lqE, lqF]
                    refine hm_run 3 138 (.int .i64 ((J2 : Nat) : Int)) rfl rfl (by kernel_rfl) (by kernel_rfl) (by kernel_rfl) (fun _ _ _ h => h) rfl (fun _ _ => rfl) trivial ?_
                    try simp only [Act.put, lqA, lqB, lqC, lqD, lqE, lqF]
                    refine hm_run 4 139 (.slice (some ⟨g, 0, none⟩) n c) rfl rfl (by kernel_rfl) (by kernel_rfl) (by kernel_rfl) (fun _ _ _ h => h) rfl (fun _ _ => rfl) trivial ?_
                    try simp only [Act.put, lqA, lqB, lqC, lqD, lqE, lqF]
                    refine hm_run 5 140 (.int .i64 ((J2 : Nat) : Int)) rfl rfl (by kernel_rfl) (by kernel_rfl) (by kernel_rfl) (fun _ _ _ h => h) rfl (fun _ _ => rfl) trivial ?_
                    try simp only [Act.put, lqA, lqB, lqC, lqD, lqE, lqF]
                    refine hm_run 6 141 (.pointer (some ⟨g, 0 + (J2) * 1, none⟩)) rfl rfl (by kernel_rfl) (by kernel_rfl) (by kernel_rfl) (fun _ _ _ h => h) rfl (fun W _ => exec_ix rfl (run_ix (k := 1) (j := J2) Tryd.underlying54 (by kernel_rfl) (by have := BND.out; omega) rfl W)) trivial ?_
                    try simp only [Act.put, lqA, lqB, lqC, lqD, lqE, lqF]
                    refine hm_run 8 143 (.slice (some ⟨g, 0, none⟩) n c) rfl rfl (by kernel_rfl) (by kernel_rfl) (by kernel_rfl) (fun _ _ _ h => h) rfl (fun _ _ => rfl) trivial ?_
                    try simp only [Act.put, lqA, lqB, lqC, lqD, lqE, lqF]
                    refine hm_run 9 144 (.int .i64 ((I2 : Nat) : Int)) rfl rfl (by kernel_rfl) (by kernel_rfl) (by kernel_rfl) (fun _ _ _ h => h) rfl (fun _ _ => rfl) trivial ?_
                    try simp only [Act.put, lqA, lqB, lqC, lqD, lqE, lqF]
                    refine hm_run 10 145 (.pointer (some ⟨g, 0 + (I2) * 1, none⟩)) rfl rfl (by kernel_rfl) (by kernel_rfl) (by kernel_rfl) (fun _ _ _ h => h) rfl (fun W _ => exec_ix rfl (run_ix (k := 1) (j := I2) Tryd.underlying54 (by kernel_rfl) (by have := BND.out; omega) rfl W)) trivial ?_
                    try simp only [Act.put, lqA, lqB, lqC, lqD, lqE, lqF]
                    refine hm_two (i := 7) (j := 11) (by kernel_rfl) ?_ ?_
                    · refine hm_step 7 rfl (by kernel_rfl) fun K hK => ?_
                      try simp only [Act.put, lqA, lqB, lqC, lqD, lqE, lqF]
                      refine mo_known (.int .u64 ((d2[J2]! : Nat) : Int)) _ (exec_load rfl (run_load_one Tryd.underlying59 rfl (cell_dn N (by have := BND.out; omega)))) ?_
                      refine hK _ _ trivial ?_
                      clear hK K
                      try simp only [Act.put, lqA, lqB, lqC, lqD, lqE, lqF]
                      refine hm_one (i := 11) (by kernel_rfl) ?_
                      refine hm_step 11 rfl (by kernel_rfl) fun K hK => ?_
                      try simp only [Act.put, lqA, lqB, lqC, lqD, lqE, lqF]
                      refine mo_known (.int .u64 ((d2[I2]! : Nat) : Int)) _ (exec_load rfl (run_load_one Tryd.underlying59 rfl (cell_dn N (by have := BND.out; omega)))) ?_
                      refine hK _ _ trivial ?_
                      clear hK K
                      try simp only [Act.put, lqA, lqB, lqC, lqD, lqE, lqF]
                      refine hm_run 12 147 (.pointer (some ⟨g, 0 + (I2) * 1, none⟩)) rfl rfl (by kernel_rfl) (by kernel_rfl) (by kernel_rfl) (fun _ _ _ h => h) rfl (fun W _ => exec_ix rfl (run_ix (k := 1) (j := I2) Tryd.underlying54 (by kernel_rfl) (by have := BND.out; omega) rfl W)) trivial ?_
                      try simp only [Act.put, lqA, lqB, lqC, lqD, lqE, lqF]
                      refine hm_one (i := 13) (by kernel_rfl) ?_
                      refine hm_step 13 rfl (by kernel_rfl) fun K hK => ?_
                      try simp only [Act.put, lqA, lqB, lqC, lqD, lqE, lqF]
                      refine mo_vput (i := I2) (v := d2[J2]!) (.tmp 147) (.tmp 142) rfl N rfl rfl (by have := BND.out; omega) ?_
                      clear N
                      intro w9 N hb9
                      replace HB := Lib.hid (HB.out.trans hb9.out)
                      clear hb9
                      refine hK _ _ trivial ?_
                      clear hK K
                      try simp only [Act.put, lqA, lqB, lqC, lqD, lqE, lqF]
                      refine hm_run 14 148 (.pointer (some ⟨g, 0 + (J2) * 1, none⟩)) rfl rfl (by kernel_rfl) (by kernel_rfl) (by kernel_rfl) (fun _ _ _ h => h) rfl (fun W _ => exec_ix rfl (run_ix (k := 1) (j := J2) Tryd.underlying54 (by kernel_rfl) (by have := BND.out; omega) rfl W)) trivial ?_
                      try simp only [Act.put, lqA, lqB, lqC, lqD, lqE, lqF]
                      refine hm_one (i := 15) (by kernel_rfl) ?_
                      refine hm_step 15 rfl (by kernel_rfl) fun K hK => ?_
                      try simp only [Act.put, lqA, lqB, lqC, lqD, lqE, lqF]
                      refine mo_vput (i := J2) (v := d2[I2]!) (.tmp 148) (.tmp 146) rfl N rfl rfl (by have := BND.out; omega) ?_
                      clear N
                      intro w9 N hb9
                      replace HB := Lib.hid (HB.out.trans hb9.out)
                      clear hb9
                      refine hK _ _ trivial ?_
                      clear hK K
                      try simp only [Act.put, lqA, lqB, lqC, lqD, lqE, lqF]
                      refine wpAnyH_done (by kernel_rfl) ?_ _
                      go_wp2_with (first | ((with_reducible refine wpList_at 150 rfl ?_); refine wpList_kn rfl (.int .i64 ((I2 + 1 : Nat) : Int)) (by exact exec_add rfl rfl rfl (by have := BND.out; rw [IntKind.wrap_i64]; omega)) ?_) | ((with_reducible refine wpList_at 152 rfl ?_); refine wpList_kn rfl (.int .i64 ((J2 - 1 : Nat) : Int)) (by exact exec_sub rfl rfl rfl (by have := BND.out; rw [IntKind.wrap_i64]; omega)) ?_))
                      go_roundg ((J2 - 1) + 1 - (I2 + 1))
                      case measure => have := BND.out; have := KI.out; have := KIJ.out; omega
                      case rel => exact ⟨I2 + 1, J2 - 1, ((d2.setIfInBounds (I2) d2[J2]!).setIfInBounds (J2) d2[I2]!), rfl, by have := BND.out; omega, by have := BND.out; omega, by have := BND.out; omega, rfl, rfl, N, INX, HB⟩
                    · refine hm_step 11 rfl (by kernel_rfl) fun K hK => ?_
                      try simp only [Act.put, lqA, lqB, lqC, lqD, lqE, lqF]
                      refine mo_known (.int .u64 ((d2[I2]! : Nat) : Int)) _ (exec_load rfl (run_load_one Tryd.underlying59 rfl (cell_dn N (by have := BND.out; omega)))) ?_
                      refine hK _ _ trivial ?_
                      clear hK K
                      try simp only [Act.put, lqA, lqB, lqC, lqD, lqE, lqF]
                      refine hm_one (i := 7) (by kernel_rfl) ?_
                      refine hm_step 7 rfl (by kernel_rfl) fun K hK => ?_
                      try simp only [Act.put, lqA, lqB, lqC, lqD, lqE, lqF]
                      refine mo_known (.int .u64 ((d2[J2]! : Nat) : Int)) _ (exec_load rfl (run_load_one Tryd.underlying59 rfl (cell_dn N (by have := BND.out; omega)))) ?_
                      refine hK _ _ trivial ?_
                      clear hK K
                      try simp only [Act.put, lqA, lqB, lqC, lqD, lqE, lqF]
                      refine hm_run 12 147 (.pointer (some ⟨g, 0 + (I2) * 1, none⟩)) rfl rfl (by kernel_rfl) (by kernel_rfl) (by kernel_rfl) (fun _ _ _ h => h) rfl (fun W _ => exec_ix rfl (run_ix (k := 1) (j := I2) Tryd.underlying54 (by kernel_rfl) (by have := BND.out; omega) rfl W)) trivial ?_
                      try simp only [Act.put, lqA, lqB, lqC, lqD, lqE, lqF]
                      refine hm_one (i := 13) (by kernel_rfl) ?_
                      refine hm_step 13 rfl (by kernel_rfl) fun K hK => ?_
                      try simp only [Act.put, lqA, lqB, lqC, lqD, lqE, lqF]
                      refine mo_vput (i := I2) (v := d2[J2]!) (.tmp 147) (.tmp 142) rfl N rfl rfl (by have := BND.out; omega) ?_
                      clear N
                      intro w9 N hb9
                      replace HB := Lib.hid (HB.out.trans hb9.out)
                      clear hb9
                      refine hK _ _ trivial ?_
                      clear hK K
                      try simp only [Act.put, lqA, lqB, lqC, lqD, lqE, lqF]
                      refine hm_run 14 148 (.pointer (some ⟨g, 0 + (J2) * 1, none⟩)) rfl rfl (by kernel_rfl) (by kernel_rfl) (by kernel_rfl) (fun _ _ _ h => h) rfl (fun W _ => exec_ix rfl (run_ix (k := 1) (j := J2) Tryd.underlying54 (by kernel_rfl) (by have := BND.out; omega) rfl W)) trivial ?_
                      try simp only [Act.put, lqA, lqB, lqC, lqD, lqE, lqF]
                      refine hm_one (i := 15) (by kernel_rfl) ?_
                      refine hm_step 15 rfl (by kernel_rfl) fun K hK => ?_
                      try simp only [Act.put, lqA, lqB, lqC, lqD, lqE, lqF]
                      refine mo_vput (i := J2) (v := d2[I2]!) (.tmp 148) (.tmp 146) rfl N rfl rfl (by have := BND.out; omega) ?_
                      clear N
                      intro w9 N hb9
                      replace HB := Lib.hid (HB.out.trans hb9.out)
                      clear hb9
                      refine hK _ _ trivial ?_
                      clear hK K
                      try simp only [Act.put, lqA, lqB, lqC, lqD, lqE, lqF]
                      refine wpAnyH_done (by kernel_rfl) ?_ _
                      go_wp2_with (first | ((with_reducible refine wpList_at 150 rfl ?_); refine wpList_kn rfl (.int .i64 ((I2 + 1 : Nat) : Int)) (by exact exec_add rfl rfl rfl (by have := BND.out; rw [IntKind.wrap_i64]; omega)) ?_) | ((with_reducible refine wpList_at 152 rfl ?_); refine wpList_kn rfl (.int .i64 ((J2 - 1 : Nat) : Int)) (by exact exec_sub rfl rfl rfl (by have := BND.out; rw [IntKind.wrap_i64]; omega)) ?_))
                      go_roundg ((J2 - 1) + 1 - (I2 + 1))
                      case measure => have := BND.out; have := KI.out; have := KIJ.out; omega
                      case rel => exact ⟨I2 + 1, J2 - 1, ((d2.setIfInBounds (I2) d2[J2]!).setIfInBounds (J2) d2[I2]!), rfl, by have := BND.out; omega, by have := BND.out; omega, by have := BND.out; omega, rfl, rfl, N, INX, HB⟩
end Go.Proofs.YtoopcmcmjaikhaaDoor
