/- The sort of uint64: a part turned round; the heap. -/
import Derived.Test.YtoopcmcmjaikhaaDoorSv
set_option linter.unusedSimpArgs false
set_option linter.unusedVariables false
set_option maxRecDepth 100000
namespace Go.Proofs.YtoopcmcmjaikhaaDoor
open Go.RowKit Go.Lib

set_option maxHeartbeats 16000000 in
theorem rev64_any {w : World} {B g n c a b : Nat} {d : Array Nat} (N : Hid (NRow B w g n c d ∧ d.size = n)) (hab : a < b) (hbn : b ≤ n) (hn : n ≤ 20000) : Calls Tryd.prog 103 #[.slice (some ⟨g, 0, none⟩) n c, .int .i64 (a : Int), .int .i64 (b : Int)] w fun e w' => e = .returned (.tuple #[]) ∧ (NRow B w' g n c (Go.Sort.reverseRange d a b) ∧ (Go.Sort.reverseRange d a b).size = n) ∧ Below B w w' := by
  obtain ⟨R, hR⟩ : ∃ R, R = Go.Sort.reverseRange d a b := ⟨_, rfl⟩
  have IN := Lib.hid (show Go.Sort.reverseLoop a (b - 1) d = R from hR.symm)
  have BI := Lib.hid (show a < b ∧ b ≤ n ∧ n ≤ 20000 from ⟨hab, hbn, hn⟩)
  have HB := Lib.hid (Below.refl B w)
  rw [← hR]
  clear hab hbn hn hR
  go_enter Tryd.func103, Tryd.ntmps103
  go_wp2_with ((with_reducible refine wpList_at 10 rfl ?_); refine wpList_kn rfl (.int .i64 ((b - 1 : Nat) : Int)) (by exact exec_sub rfl rfl rfl (by have := BI.out; rw [IntKind.wrap_i64]; omega)) ?_)
  go_loopg [6, 7] (b - a) (fun k s6 s7 wr => ∃ (i j : Nat) (d2 : Array Nat), b - i = k ∧ a ≤ i ∧ i ≤ b ∧ j < b ∧ s6 = .int .i64 (i : Int) ∧ s7 = .int .i64 (j : Int) ∧ Hid (NRow B wr g n c d2 ∧ d2.size = n) ∧ Hid (Go.Sort.reverseLoop i j d2 = R) ∧ Hid (Below B w wr))
  case atStart => exact ⟨a, b - 1, d, rfl, Nat.le_refl _, by have := BI.out; omega, by have := BI.out; omega, rfl, rfl, N, IN, HB⟩
  case round =>
    clear N IN HB
    obtain ⟨i, j, d2, hk, hai, hib, hjb, rfl, rfl, N, IN, HB⟩ := hrel
    have BND := Lib.hid (show b - i = gk ∧ a ≤ i ∧ i ≤ b ∧ j < b ∧ a < b ∧ b ≤ n ∧ n ≤ 20000 by have := BI.out; omega)
    by_cases hij : i < j
    · have LT := Lib.hid (show decide ((i : Int) < (j : Int)) = true from decide_eq_true (by omega))
      have INX := Lib.hid (show Go.Sort.reverseLoop (i + 1) (j - 1) (Go.Sort.swp d2 i j) = R by have h := IN.out; rw [Go.Sort.reverseLoop, if_pos hij] at h; exact h)
      replace BND := Lib.hid (And.intro hij BND.out)
      clear IN hij hk hai hib hjb
      go_upto_region 3 with ((with_reducible refine wpList_at 13 rfl ?_); refine wpList_kn rfl (.bool true) (by exact exec_lssi rfl rfl rfl LT.out) ?_)
      refine wp_region_T (Φ := fun X => (NRow B X g n c d2 ∧ d2.size = n) ∧ Below B w X) (S := fun _ => True) (Lib.hid ⟨N.out, HB.out⟩) (fun X h => ⟨⟨h.1.1.below ((Below.refl _ _).drew), h.1.2⟩, h.2.drew⟩) (fun _ _ => trivial) (by kernel_rfl) ?_
      clear N HB
      intro wx TT S0
      have N := Lib.hid TT.out.1
      have HB := Lib.hid TT.out.2
      clear TT
      refine hm_run 0 14 (.slice (some ⟨g, 0, none⟩) n c) rfl rfl (by kernel_rfl) (by kernel_rfl) (by kernel_rfl) (fun _ _ _ h => h) rfl (fun _ _ => rfl) trivial ?_
      try simp only [Act.put, lqA, lqB, lqC, lqD, lqE, lqF]
      refine hm_run 1 15 (.int .i64 ((i : Nat) : Int)) rfl rfl (by kernel_rfl) (by kernel_rfl) (by kernel_rfl) (fun _ _ _ h => h) rfl (fun _ _ => rfl) trivial ?_
      try simp only [Act.put, lqA, lqB, lqC, lqD, lqE, lqF]
      refine hm_run 2 16 (.slice (some ⟨g, 0, none⟩) n c) rfl rfl (by kernel_rfl) (by kernel_rfl) (by kernel_rfl) (fun _ _ _ h => h) rfl (fun _ _ => rfl) trivial ?_
      try simp only [Act.put, lqA, lqB, lqC, lqD, lqE, lqF]
      refine hm_run 3 17 (.int .i64 ((j : Nat) : Int)) rfl rfl (by kernel_rfl) (by kernel_rfl) (by kernel_rfl) (fun _ _ _ h => h) rfl (fun _ _ => rfl) trivial ?_
      try simp only [Act.put, lqA, lqB, lqC, lqD, lqE, lqF]
      refine hm_run 4 18 (.slice (some ⟨g, 0, none⟩) n c) rfl rfl (by kernel_rfl) (by kernel_rfl) (by kernel_rfl) (fun _ _ _ h => h) rfl (fun _ _ => rfl) trivial ?_
      try simp only [Act.put, lqA, lqB, lqC, lqD, lqE, lqF]
      refine hm_run 5 19 (.int .i64 ((j : Nat) : Int)) rfl rfl (by kernel_rfl) (by kernel_rfl) (by kernel_rfl) (fun _ _ _ h => h) rfl (fun _ _ => rfl) trivial ?_
      try simp only [Act.put, lqA, lqB, lqC, lqD, lqE, lqF]
      refine hm_run 6 20 (.pointer (some ⟨g, 0 + (j) * 1, none⟩)) rfl rfl (by kernel_rfl) (by kernel_rfl) (by kernel_rfl) (fun _ _ _ h => h) rfl (fun W _ => exec_ix rfl (run_ix (k := 1) (j := j) Tryd.underlying54 (by kernel_rfl) (by have := BND.out; omega) rfl W)) trivial ?_
      try simp only [Act.put, lqA, lqB, lqC, lqD, lqE, lqF]
      refine hm_run 8 22 (.slice (some ⟨g, 0, none⟩) n c) rfl rfl (by kernel_rfl) (by kernel_rfl) (by kernel_rfl) (fun _ _ _ h => h) rfl (fun _ _ => rfl) trivial ?_
      try simp only [Act.put, lqA, lqB, lqC, lqD, lqE, lqF]
      refine hm_run 9 23 (.int .i64 ((i : Nat) : Int)) rfl rfl (by kernel_rfl) (by kernel_rfl) (by kernel_rfl) (fun _ _ _ h => h) rfl (fun _ _ => rfl) trivial ?_
      try simp only [Act.put, lqA, lqB, lqC, lqD, lqE, lqF]
      refine hm_run 10 24 (.pointer (some ⟨g, 0 + (i) * 1, none⟩)) rfl rfl (by kernel_rfl) (by kernel_rfl) (by kernel_rfl) (fun _ _ _ h => h) rfl (fun W _ => exec_ix rfl (run_ix (k := 1) (j := i) Tryd.underlying54 (by kernel_rfl) (by have := BND.out; omega) rfl W)) trivial ?_
      try simp only [Act.put, lqA, lqB, lqC, lqD, lqE, lqF]
      refine hm_two (i := 7) (j := 11) (by kernel_rfl) ?_ ?_
      · refine hm_step 7 rfl (by kernel_rfl) fun K hK => ?_
        try simp only [Act.put, lqA, lqB, lqC, lqD, lqE, lqF]
        refine mo_known (.int .u64 ((d2[j]! : Nat) : Int)) _ (exec_load rfl (run_load_one Tryd.underlying59 rfl (cell_dn N (by have := BND.out; omega)))) ?_
        refine hK _ _ trivial ?_
        clear hK K
        try simp only [Act.put, lqA, lqB, lqC, lqD, lqE, lqF]
        refine hm_one (i := 11) (by kernel_rfl) ?_
        refine hm_step 11 rfl (by kernel_rfl) fun K hK => ?_
        try simp only [Act.put, lqA, lqB, lqC, lqD, lqE, lqF]
        refine mo_known (.int .u64 ((d2[i]! : Nat) : Int)) _ (exec_load rfl (run_load_one Tryd.underlying59 rfl (cell_dn N (by have := BND.out; omega)))) ?_
        refine hK _ _ trivial ?_
        clear hK K
        try simp only [Act.put, lqA, lqB, lqC, lqD, lqE, lqF]
        refine hm_run 12 26 (.pointer (some ⟨g, 0 + (i) * 1, none⟩)) rfl rfl (by kernel_rfl) (by kernel_rfl) (by kernel_rfl) (fun _ _ _ h => h) rfl (fun W _ => exec_ix rfl (run_ix (k := 1) (j := i) Tryd.underlying54 (by kernel_rfl) (by have := BND.out; omega) rfl W)) trivial ?_
        try simp only [Act.put, lqA, lqB, lqC, lqD, lqE, lqF]
        refine hm_one (i := 13) (by kernel_rfl) ?_
        refine hm_step 13 rfl (by kernel_rfl) fun K hK => ?_
        try simp only [Act.put, lqA, lqB, lqC, lqD, lqE, lqF]
        refine mo_vput (i := i) (v := d2[j]!) (.tmp 26) (.tmp 21) rfl N rfl rfl (by have := BND.out; omega) ?_
        clear N
        intro w9 N hb9
        replace HB := Lib.hid (HB.out.trans hb9.out)
        clear hb9
        refine hK _ _ trivial ?_
        clear hK K
        try simp only [Act.put, lqA, lqB, lqC, lqD, lqE, lqF]
        refine hm_run 14 27 (.pointer (some ⟨g, 0 + (j) * 1, none⟩)) rfl rfl (by kernel_rfl) (by kernel_rfl) (by kernel_rfl) (fun _ _ _ h => h) rfl (fun W _ => exec_ix rfl (run_ix (k := 1) (j := j) Tryd.underlying54 (by kernel_rfl) (by have := BND.out; omega) rfl W)) trivial ?_
        try simp only [Act.put, lqA, lqB, lqC, lqD, lqE, lqF]
        refine hm_one (i := 15) (by kernel_rfl) ?_
        refine hm_step 15 rfl (by kernel_rfl) fun K hK => ?_
        try simp only [Act.put, lqA, lqB, lqC, lqD, lqE, lqF]
        refine mo_vput (i := j) (v := d2[i]!) (.tmp 27) (.tmp 25) rfl N rfl rfl (by have := BND.out; omega) ?_
        clear N
        intro w9 N hb9
        replace HB := Lib.hid (HB.out.trans hb9.out)
        clear hb9
        refine hK _ _ trivial ?_
        clear hK K
        try simp only [Act.put, lqA, lqB, lqC, lqD, lqE, lqF]
        refine wpAnyH_done (by kernel_rfl) ?_ _
        go_wp2_with (first
          | ((with_reducible refine wpList_at 29 rfl ?_); refine wpList_kn rfl (.int .i64 ((i + 1 : Nat) : Int)) (by exact exec_add rfl rfl rfl (by have := BND.out; rw [IntKind.wrap_i64]; omega)) ?_)
          | ((with_reducible refine wpList_at 31 rfl ?_); refine wpList_kn rfl (.int .i64 ((j - 1 : Nat) : Int)) (by exact exec_sub rfl rfl rfl (by have := BND.out; rw [IntKind.wrap_i64]; omega)) ?_))
        go_roundg (b - (i + 1))
        case measure => have := BND.out; omega
        case rel => exact ⟨i + 1, j - 1, ((d2.setIfInBounds (i) d2[j]!).setIfInBounds (j) d2[i]!), by have := BND.out; omega, by have := BND.out; omega, by have := BND.out; omega, by have := BND.out; omega, rfl, rfl, N, INX, HB⟩
      · refine hm_step 11 rfl (by kernel_rfl) fun K hK => ?_
        try simp only [Act.put, lqA, lqB, lqC, lqD, lqE, lqF]
        refine mo_known (.int .u64 ((d2[i]! : Nat) : Int)) _ (exec_load rfl (run_load_one Tryd.underlying59 rfl (cell_dn N (by have := BND.out; omega)))) ?_
        refine hK _ _ trivial ?_
        clear hK K
        try simp only [Act.put, lqA, lqB, lqC, lqD, lqE, lqF]
        refine hm_one (i := 7) (by kernel_rfl) ?_
        refine hm_step 7 rfl (by kernel_rfl) fun K hK => ?_
        try simp only [Act.put, lqA, lqB, lqC, lqD, lqE, lqF]
        refine mo_known (.int .u64 ((d2[j]! : Nat) : Int)) _ (exec_load rfl (run_load_one Tryd.underlying59 rfl (cell_dn N (by have := BND.out; omega)))) ?_
        refine hK _ _ trivial ?_
        clear hK K
        try simp only [Act.put, lqA, lqB, lqC, lqD, lqE, lqF]
        refine hm_run 12 26 (.pointer (some ⟨g, 0 + (i) * 1, none⟩)) rfl rfl (by kernel_rfl) (by kernel_rfl) (by kernel_rfl) (fun _ _ _ h => h) rfl (fun W _ => exec_ix rfl (run_ix (k := 1) (j := i) Tryd.underlying54 (by kernel_rfl) (by have := BND.out; omega) rfl W)) trivial ?_
        try simp only [Act.put, lqA, lqB, lqC, lqD, lqE, lqF]
        refine hm_one (i := 13) (by kernel_rfl) ?_
        refine hm_step 13 rfl (by kernel_rfl) fun K hK => ?_
        try simp only [Act.put, lqA, lqB, lqC, lqD, lqE, lqF]
        refine mo_vput (i := i) (v := d2[j]!) (.tmp 26) (.tmp 21) rfl N rfl rfl (by have := BND.out; omega) ?_
        clear N
        intro w9 N hb9
        replace HB := Lib.hid (HB.out.trans hb9.out)
        clear hb9
        refine hK _ _ trivial ?_
        clear hK K
        try simp only [Act.put, lqA, lqB, lqC, lqD, lqE, lqF]
        refine hm_run 14 27 (.pointer (some ⟨g, 0 + (j) * 1, none⟩)) rfl rfl (by kernel_rfl) (by kernel_rfl) (by kernel_rfl) (fun _ _ _ h => h) rfl (fun W _ => exec_ix rfl (run_ix (k := 1) (j := j) Tryd.underlying54 (by kernel_rfl) (by have := BND.out; omega) rfl W)) trivial ?_
        try simp only [Act.put, lqA, lqB, lqC, lqD, lqE, lqF]
        refine hm_one (i := 15) (by kernel_rfl) ?_
        refine hm_step 15 rfl (by kernel_rfl) fun K hK => ?_
        try simp only [Act.put, lqA, lqB, lqC, lqD, lqE, lqF]
        refine mo_vput (i := j) (v := d2[i]!) (.tmp 27) (.tmp 25) rfl N rfl rfl (by have := BND.out; omega) ?_
        clear N
        intro w9 N hb9
        replace HB := Lib.hid (HB.out.trans hb9.out)
        clear hb9
        refine hK _ _ trivial ?_
        clear hK K
        try simp only [Act.put, lqA, lqB, lqC, lqD, lqE, lqF]
        refine wpAnyH_done (by kernel_rfl) ?_ _
        go_wp2_with (first
          | ((with_reducible refine wpList_at 29 rfl ?_); refine wpList_kn rfl (.int .i64 ((i + 1 : Nat) : Int)) (by exact exec_add rfl rfl rfl (by have := BND.out; rw [IntKind.wrap_i64]; omega)) ?_)
          | ((with_reducible refine wpList_at 31 rfl ?_); refine wpList_kn rfl (.int .i64 ((j - 1 : Nat) : Int)) (by exact exec_sub rfl rfl rfl (by have := BND.out; rw [IntKind.wrap_i64]; omega)) ?_))
        go_roundg (b - (i + 1))
        case measure => have := BND.out; omega
        case rel => exact ⟨i + 1, j - 1, ((d2.setIfInBounds (i) d2[j]!).setIfInBounds (j) d2[i]!), by have := BND.out; omega, by have := BND.out; omega, by have := BND.out; omega, by have := BND.out; omega, rfl, rfl, N, INX, HB⟩
    · have LT := Lib.hid (show decide ((i : Int) < (j : Int)) = false from decide_eq_false (by omega))
      have RX := Lib.hid (show d2 = R by have h := IN.out; rw [Go.Sort.reverseLoop, if_neg hij] at h; exact h)
      clear IN hij hk hai hib hjb
      go_wp2_with ((with_reducible refine wpList_at 13 rfl ?_); refine wpList_kn rfl (.bool false) (by exact exec_lssi rfl rfl rfl LT.out) ?_)
      go_end0
      exact ⟨rfl, by rw [← RX.out]; exact N.out, HB.out⟩
theorem sift_eq (hi first r ch : Nat) (d : Array Nat) (hch : ch = 2 * r + 1) : Go.Sort.siftDown ltN hi first r d = if hi ≤ ch then d else if ch + 1 < hi ∧ d[first + ch]! < d[first + ch + 1]! then (if ¬ d[first + r]! < d[first + (ch + 1)]! then d else Go.Sort.siftDown ltN hi first (ch + 1) (Go.Sort.swp d (first + r) (first + (ch + 1)))) else (if ¬ d[first + r]! < d[first + ch]! then d else Go.Sort.siftDown ltN hi first ch (Go.Sort.swp d (first + r) (first + ch))) := by
  subst hch
  rw [Go.Sort.siftDown]
  by_cases h1 : hi ≤ 2 * r + 1
  · rw [dif_pos h1, if_pos h1]
  · rw [dif_neg h1, if_neg h1]
    by_cases h2 : 2 * r + 1 + 1 < hi ∧ d[first + (2 * r + 1)]! < d[first + (2 * r + 1) + 1]!
    · rw [if_pos h2, if_pos (by simp [ltN, h2.1, h2.2])]
      by_cases h3 : d[first + r]! < d[first + (2 * r + 1 + 1)]!
      · rw [if_neg (by show ¬ (!decide _) = true; rw [decide_eq_true h3]; decide), dif_pos h2.1, if_neg (fun hh => hh h3)]
      · rw [if_pos (by show (!decide _) = true; rw [decide_eq_false h3]; rfl), if_pos h3]
    · rw [if_neg h2, if_neg (by simp only [ltN, Bool.and_eq_true, decide_eq_true_iff]; exact h2)]
      by_cases h3 : d[first + r]! < d[first + (2 * r + 1)]!
      · rw [if_neg (by show ¬ (!decide _) = true; rw [decide_eq_true h3]; decide), if_neg (fun hh => hh h3)]
      · rw [if_pos (by show (!decide _) = true; rw [decide_eq_false h3]; rfl), if_pos h3]
set_option maxHeartbeats 32000000 in
theorem sift_any {w : World} {B g n c lo hi first : Nat} {d : Array Nat} (N : Hid (NRow B w g n c d ∧ d.size = n)) (hf : first + hi ≤ n) (hl : lo ≤ 20000) (hn : n ≤ 20000) : Calls Tryd.prog 122 #[.slice (some ⟨g, 0, none⟩) n c, .int .i64 (lo : Int), .int .i64 (hi : Int), .int .i64 (first : Int)] w fun e w' => e = .returned (.tuple #[]) ∧ (NRow B w' g n c (Go.Sort.siftDown ltN hi first lo d) ∧ (Go.Sort.siftDown ltN hi first lo d).size = n) ∧ Below B w w' := by
  obtain ⟨R, hR⟩ : ∃ R, R = Go.Sort.siftDown ltN hi first lo d := ⟨_, rfl⟩
  have IN := Lib.hid hR.symm
  have BI := Lib.hid (show first + hi ≤ n ∧ lo ≤ 20000 ∧ n ≤ 20000 from ⟨hf, hl, hn⟩)
  have HB := Lib.hid (Below.refl B w)
  rw [← hR]
  clear hf hl hn hR
  go_enter Tryd.func122, Tryd.ntmps122
  go_wp2_with fail
  go_loopg [8] (hi - lo) (fun k s8 wr => ∃ (r : Nat) (d2 : Array Nat), (hi - r = k ∧ (r = lo ∨ r < hi)) ∧ s8 = .int .i64 (r : Int) ∧ Hid (NRow B wr g n c d2 ∧ d2.size = n) ∧ Hid (Go.Sort.siftDown ltN hi first r d2 = R) ∧ Hid (Below B w wr))
  case atStart => exact ⟨lo, d, ⟨rfl, .inl rfl⟩, rfl, N, IN, HB⟩
  case round =>
    clear N IN HB
    obtain ⟨r, d2, hk, rfl, N, IN, HB⟩ := hrel
    obtain ⟨ch, hch⟩ : ∃ ch, ch = 2 * r + 1 := ⟨_, rfl⟩
    obtain ⟨c2, hc2⟩ : ∃ c2, c2 = ch + 1 := ⟨_, rfl⟩
    have HCH := Lib.hid hch
    have HC2 := Lib.hid hc2
    have BND := Lib.hid (show hi - r = gk ∧ r ≤ 20000 ∧ first + hi ≤ n ∧ n ≤ 20000 ∧ ch = 2 * r + 1 ∧ c2 = ch + 1 by have := BI.out; omega)
    clear hk hch hc2
    by_cases hc : hi ≤ ch
    · have GE := Lib.hid (show decide (((hi : Nat) : Int) ≤ (ch : Int)) = true from decide_eq_true (by omega))
      have RX := Lib.hid (show d2 = R by have h := IN.out; rw [sift_eq _ _ _ _ _ HCH.out, if_pos hc] at h; exact h)
      clear IN hc
      go_wp2_with (first | ((with_reducible refine wpList_at 12 rfl ?_); refine wpList_kn rfl (.int .i64 ((2 * r : Nat) : Int)) (by exact exec_mul rfl rfl rfl (by have := BND.out; rw [IntKind.wrap_i64]; omega)) ?_) | ((with_reducible refine wpList_at 13 rfl ?_); refine wpList_kn rfl (.int .i64 (ch : Int)) (by exact exec_add rfl rfl rfl (by have := BND.out; rw [IntKind.wrap_i64]; omega)) ?_) | ((with_reducible refine wpList_at 16 rfl ?_); refine wpList_kn rfl (.bool true) (by exact exec_geqN rfl rfl rfl GE.out) ?_))
      go_end0
      exact ⟨rfl, by rw [← RX.out]; exact N.out, HB.out⟩
    · have GE := Lib.hid (show decide (((hi : Nat) : Int) ≤ (ch : Int)) = false from decide_eq_false (by omega))
      replace BND := Lib.hid (And.intro (show ch < hi by omega) BND.out)
      clear hc
      by_cases h1 : ch + 1 < hi
      · have L1 := Lib.hid (show decide (((ch + 1 : Nat) : Int) < (hi : Int)) = true from decide_eq_true (by omega))
        replace BND := Lib.hid (And.intro h1 BND.out)
        clear h1
        by_cases hl : d2[first + ch]! < d2[first + ch + 1]!
        · have LC := Lib.hid (decide_eq_true hl)
          clear hl
          go_upto_region 3 with (first | ((with_reducible refine wpList_at 12 rfl ?_); refine wpList_kn rfl (.int .i64 ((2 * r : Nat) : Int)) (by exact exec_mul rfl rfl rfl (by have := BND.out; rw [IntKind.wrap_i64]; omega)) ?_) | ((with_reducible refine wpList_at 13 rfl ?_); refine wpList_kn rfl (.int .i64 (ch : Int)) (by exact exec_add rfl rfl rfl (by have := BND.out; rw [IntKind.wrap_i64]; omega)) ?_) | ((with_reducible refine wpList_at 16 rfl ?_); refine wpList_kn rfl (.bool false) (by exact exec_geqN rfl rfl rfl GE.out) ?_))
          refine wp_region_T (Φ := fun X => (NRow B X g n c d2 ∧ d2.size = n) ∧ Below B w X) (S := fun X => (NRow B X g n c d2 ∧ d2.size = n) ∧ Below B w X) (Lib.hid ⟨N.out, HB.out⟩) (fun X h => ⟨⟨h.1.1.below ((Below.refl _ _).drew), h.1.2⟩, h.2.drew⟩) (fun X h => h) (by kernel_rfl) ?_
          clear N HB
          intro wx TT S0
          have N := Lib.hid TT.out.1
          have HB := Lib.hid TT.out.2
          clear TT
          refine hm_run 0 17 (.int .i64 ((ch : Nat) : Int)) rfl rfl (by kernel_rfl) (by kernel_rfl) (by kernel_rfl) (fun _ _ _ h => h) rfl (fun _ _ => rfl) S0.out ?_
          try simp only [Act.put, lqA, lqB, lqC, lqD, lqE, lqF]
          refine hm_run 1 18 (.int .i64 ((ch + 1 : Nat) : Int)) rfl rfl (by kernel_rfl) (by kernel_rfl) (by kernel_rfl) (fun _ _ _ h => h) rfl (fun _ _ => exec_add rfl rfl rfl (by have := BND.out; rw [IntKind.wrap_i64]; omega)) S0.out ?_
          try simp only [Act.put, lqA, lqB, lqC, lqD, lqE, lqF]
          refine hm_run 2 19 (.int .i64 ((hi : Nat) : Int)) rfl rfl (by kernel_rfl) (by kernel_rfl) (by kernel_rfl) (fun _ _ _ h => h) rfl (fun _ _ => rfl) S0.out ?_
          try simp only [Act.put, lqA, lqB, lqC, lqD, lqE, lqF]
          refine hm_run 3 20 (.bool true) rfl rfl (by kernel_rfl) (by kernel_rfl) (by kernel_rfl) (fun _ _ _ h => h) rfl (fun _ _ => exec_lssi rfl rfl rfl L1.out) S0.out ?_
          try simp only [Act.put, lqA, lqB, lqC, lqD, lqE, lqF]
          refine hm_run 4 21 (.bool true) rfl rfl (by kernel_rfl) (by kernel_rfl) (by kernel_rfl) (fun _ _ _ h => h) rfl (fun _ _ => rfl) S0.out ?_
          try simp only [Act.put, lqA, lqB, lqC, lqD, lqE, lqF]
          refine hm_run 5 22 (.slice (some ⟨g, 0, none⟩) n c) rfl rfl (by kernel_rfl) (by kernel_rfl) (by kernel_rfl) (fun _ _ _ h => h) rfl (fun _ _ => rfl) S0.out ?_
          try simp only [Act.put, lqA, lqB, lqC, lqD, lqE, lqF]
          refine hm_run 6 23 (.int .i64 ((first : Nat) : Int)) rfl rfl (by kernel_rfl) (by kernel_rfl) (by kernel_rfl) (fun _ _ _ h => h) rfl (fun _ _ => rfl) S0.out ?_
          try simp only [Act.put, lqA, lqB, lqC, lqD, lqE, lqF]
          refine hm_run 7 24 (.int .i64 ((ch : Nat) : Int)) rfl rfl (by kernel_rfl) (by kernel_rfl) (by kernel_rfl) (fun _ _ _ h => h) rfl (fun _ _ => rfl) S0.out ?_
          try simp only [Act.put, lqA, lqB, lqC, lqD, lqE, lqF]
          refine hm_run 8 25 (.int .i64 ((first + ch : Nat) : Int)) rfl rfl (by kernel_rfl) (by kernel_rfl) (by kernel_rfl) (fun _ _ _ h => h) rfl (fun _ _ => exec_add rfl rfl rfl (by have := BND.out; rw [IntKind.wrap_i64]; omega)) S0.out ?_
          try simp only [Act.put, lqA, lqB, lqC, lqD, lqE, lqF]
          refine hm_run 9 26 (.pointer (some ⟨g, 0 + (first + ch) * 1, none⟩)) rfl rfl (by kernel_rfl) (by kernel_rfl) (by kernel_rfl) (fun _ _ _ h => h) rfl (fun W _ => exec_ix rfl (run_ix (k := 1) (j := first + ch) Tryd.underlying54 (by kernel_rfl) (by have := BND.out; omega) rfl W)) S0.out ?_
          try simp only [Act.put, lqA, lqB, lqC, lqD, lqE, lqF]
          refine hm_run 10 27 (.int .u64 ((d2[first + ch]! : Nat) : Int)) rfl rfl (by kernel_rfl) (by kernel_rfl) (by kernel_rfl) (fun _ _ _ h => h) rfl (fun W hW => exec_load rfl (run_load_one Tryd.underlying59 rfl (cell_dn (Lib.hid hW.1) (by have := BND.out; omega)))) S0.out ?_
          try simp only [Act.put, lqA, lqB, lqC, lqD, lqE, lqF]
          refine hm_run 11 28 (.slice (some ⟨g, 0, none⟩) n c) rfl rfl (by kernel_rfl) (by kernel_rfl) (by kernel_rfl) (fun _ _ _ h => h) rfl (fun _ _ => rfl) S0.out ?_
          try simp only [Act.put, lqA, lqB, lqC, lqD, lqE, lqF]
          refine hm_run 12 29 (.int .i64 ((first : Nat) : Int)) rfl rfl (by kernel_rfl) (by kernel_rfl) (by kernel_rfl) (fun _ _ _ h => h) rfl (fun _ _ => rfl) S0.out ?_
          try simp only [Act.put, lqA, lqB, lqC, lqD, lqE, lqF]
          refine hm_run 13 30 (.int .i64 ((ch : Nat) : Int)) rfl rfl (by kernel_rfl) (by kernel_rfl) (by kernel_rfl) (fun _ _ _ h => h) rfl (fun _ _ => rfl) S0.out ?_
          try simp only [Act.put, lqA, lqB, lqC, lqD, lqE, lqF]
          refine hm_run 14 31 (.int .i64 ((first + ch : Nat) : Int)) rfl rfl (by kernel_rfl) (by kernel_rfl) (by kernel_rfl) (fun _ _ _ h => h) rfl (fun _ _ => exec_add rfl rfl rfl (by have := BND.out; rw [IntKind.wrap_i64]; omega)) S0.out ?_
          try simp only [Act.put, lqA, lqB, lqC, lqD, lqE, lqF]
          refine hm_run 15 32 (.int .i64 ((first + ch + 1 : Nat) : Int)) rfl rfl (by kernel_rfl) (by kernel_rfl) (by kernel_rfl) (fun _ _ _ h => h) rfl (fun _ _ => exec_add rfl rfl rfl (by have := BND.out; rw [IntKind.wrap_i64]; omega)) S0.out ?_
          try simp only [Act.put, lqA, lqB, lqC, lqD, lqE, lqF]
          refine hm_run 16 33 (.pointer (some ⟨g, 0 + (first + ch + 1) * 1, none⟩)) rfl rfl (by kernel_rfl) (by kernel_rfl) (by kernel_rfl) (fun _ _ _ h => h) rfl (fun W _ => exec_ix rfl (run_ix (k := 1) (j := first + ch + 1) Tryd.underlying54 (by kernel_rfl) (by have := BND.out; omega) rfl W)) S0.out ?_
          try simp only [Act.put, lqA, lqB, lqC, lqD, lqE, lqF]
          refine hm_run 17 34 (.int .u64 ((d2[first + ch + 1]! : Nat) : Int)) rfl rfl (by kernel_rfl) (by kernel_rfl) (by kernel_rfl) (fun _ _ _ h => h) rfl (fun W hW => exec_load rfl (run_load_one Tryd.underlying59 rfl (cell_dn (Lib.hid hW.1) (by have := BND.out; omega)))) S0.out ?_
          try simp only [Act.put, lqA, lqB, lqC, lqD, lqE, lqF]
          refine hm_one (i := 18) (by kernel_rfl) ?_
          refine hm_step 18 rfl (by kernel_rfl) fun K hK => ?_
          try simp only [Act.put, lqA, lqB, lqC, lqD, lqE, lqF]
          go_simp
          go_at_call 58
          refine (less_any _ _ _).mono ?_
          rintro e w7 ⟨rfl, rfl⟩
          rw [LC.out]
          refine hK _ _ S0.out ?_
          clear hK K
          try simp only [Act.put, lqA, lqB, lqC, lqD, lqE, lqF]
          refine hm_run 19 36 (.bool true) rfl rfl (by kernel_rfl) (by kernel_rfl) (by kernel_rfl) (fun _ _ _ h => h) rfl (fun _ _ => rfl) S0.out ?_
          try simp only [Act.put, lqA, lqB, lqC, lqD, lqE, lqF]
          refine wpAnyH_done (by kernel_rfl) ?_ _
          by_cases hr : d2[first + r]! < d2[first + c2]!
          · have LR := Lib.hid (decide_eq_true hr)
            have INX := Lib.hid (show Go.Sort.siftDown ltN hi first c2 (Go.Sort.swp d2 (first + r) (first + c2)) = R by
              have h := IN.out
              rw [sift_eq _ _ _ _ _ HCH.out, if_neg (by have := BND.out; omega), if_pos ⟨by have := BND.out; omega, of_decide_eq_true LC.out⟩] at h
              rw [← HC2.out] at h
              rw [if_neg (fun hh => hh hr)] at h
              exact h)
            clear IN hr
            go_upto_region 5 with ((with_reducible refine wpList_at 38 rfl ?_); refine wpList_kn rfl (.int .i64 (c2 : Int)) (by exact exec_add rfl rfl rfl (by have := BND.out; rw [IntKind.wrap_i64]; omega)) ?_)
            refine wp_region_T (Φ := fun X => (NRow B X g n c d2 ∧ d2.size = n) ∧ Below B w X) (S := fun X => (NRow B X g n c d2 ∧ d2.size = n) ∧ Below B w X) (Lib.hid ⟨N.out, HB.out⟩) (fun X h => ⟨⟨h.1.1.below ((Below.refl _ _).drew), h.1.2⟩, h.2.drew⟩) (fun X h => h) (by kernel_rfl) ?_
            clear N HB
            intro wx TT S0
            have N := Lib.hid TT.out.1
            have HB := Lib.hid TT.out.2
            clear TT
            refine hm_run 0 39 (.slice (some ⟨g, 0, none⟩) n c) rfl rfl (by kernel_rfl) (by kernel_rfl) (by kernel_rfl) (fun _ _ _ h => h) rfl (fun _ _ => rfl) S0.out ?_
            try simp only [Act.put, lqA, lqB, lqC, lqD, lqE, lqF]
            refine hm_run 1 40 (.int .i64 ((first : Nat) : Int)) rfl rfl (by kernel_rfl) (by kernel_rfl) (by kernel_rfl) (fun _ _ _ h => h) rfl (fun _ _ => rfl) S0.out ?_
            try simp only [Act.put, lqA, lqB, lqC, lqD, lqE, lqF]
            refine hm_run 2 41 (.int .i64 ((r : Nat) : Int)) rfl rfl (by kernel_rfl) (by kernel_rfl) (by kernel_rfl) (fun _ _ _ h => h) rfl (fun _ _ => rfl) S0.out ?_
            try simp only [Act.put, lqA, lqB, lqC, lqD, lqE, lqF]
            refine hm_run 3 42 (.int .i64 ((first + r : Nat) : Int)) rfl rfl (by kernel_rfl) (by kernel_rfl) (by kernel_rfl) (fun _ _ _ h => h) rfl (fun _ _ => exec_add rfl rfl rfl (by have := BND.out; rw [IntKind.wrap_i64]; omega)) S0.out ?_
            try simp only [Act.put, lqA, lqB, lqC, lqD, lqE, lqF]
            refine hm_run 4 43 (.pointer (some ⟨g, 0 + (first + r) * 1, none⟩)) rfl rfl (by kernel_rfl) (by kernel_rfl) (by kernel_rfl) (fun _ _ _ h => h) rfl (fun W _ => exec_ix rfl (run_ix (k := 1) (j := first + r) Tryd.underlying54 (by kernel_rfl) (by have := BND.out; omega) rfl W)) S0.out ?_
            try simp only [Act.put, lqA, lqB, lqC, lqD, lqE, lqF]
            refine hm_run 5 44 (.int .u64 ((d2[first + r]! : Nat) : Int)) rfl rfl (by kernel_rfl) (by kernel_rfl) (by kernel_rfl) (fun _ _ _ h => h) rfl (fun W hW => exec_load rfl (run_load_one Tryd.underlying59 rfl (cell_dn (Lib.hid hW.1) (by have := BND.out; omega)))) S0.out ?_
            try simp only [Act.put, lqA, lqB, lqC, lqD, lqE, lqF]
            refine hm_run 6 45 (.slice (some ⟨g, 0, none⟩) n c) rfl rfl (by kernel_rfl) (by kernel_rfl) (by kernel_rfl) (fun _ _ _ h => h) rfl (fun _ _ => rfl) S0.out ?_
            try simp only [Act.put, lqA, lqB, lqC, lqD, lqE, lqF]
            refine hm_run 7 46 (.int .i64 ((first : Nat) : Int)) rfl rfl (by kernel_rfl) (by kernel_rfl) (by kernel_rfl) (fun _ _ _ h => h) rfl (fun _ _ => rfl) S0.out ?_
            try simp only [Act.put, lqA, lqB, lqC, lqD, lqE, lqF]
            refine hm_run 8 47 (.int .i64 ((c2 : Nat) : Int)) rfl rfl (by kernel_rfl) (by kernel_rfl) (by kernel_rfl) (fun _ _ _ h => h) rfl (fun _ _ => rfl) S0.out ?_
            try simp only [Act.put, lqA, lqB, lqC, lqD, lqE, lqF]
            refine hm_run 9 48 (.int .i64 ((first + c2 : Nat) : Int)) rfl rfl (by kernel_rfl) (by kernel_rfl) (by kernel_rfl) (fun _ _ _ h => h) rfl (fun _ _ => exec_add rfl rfl rfl (by have := BND.out; rw [IntKind.wrap_i64]; omega)) S0.out ?_
            try simp only [Act.put, lqA, lqB, lqC, lqD, lqE, lqF]
            refine hm_run 10 49 (.pointer (some ⟨g, 0 + (first + c2) * 1, none⟩)) rfl rfl (by kernel_rfl) (by kernel_rfl) (by kernel_rfl) (fun _ _ _ h => h) rfl (fun W _ => exec_ix rfl (run_ix (k := 1) (j := first + c2) Tryd.underlying54 (by kernel_rfl) (by have := BND.out; omega) rfl W)) S0.out ?_
            try simp only [Act.put, lqA, lqB, lqC, lqD, lqE, lqF]
            refine hm_run 11 50 (.int .u64 ((d2[first + c2]! : Nat) : Int)) rfl rfl (by kernel_rfl) (by kernel_rfl) (by kernel_rfl) (fun _ _ _ h => h) rfl (fun W hW => exec_load rfl (run_load_one Tryd.underlying59 rfl (cell_dn (Lib.hid hW.1) (by have := BND.out; omega)))) S0.out ?_
            try simp only [Act.put, lqA, lqB, lqC, lqD, lqE, lqF]
            refine hm_one (i := 12) (by kernel_rfl) ?_
            refine hm_step 12 rfl (by kernel_rfl) fun K hK => ?_
            try simp only [Act.put, lqA, lqB, lqC, lqD, lqE, lqF]
            go_simp
            go_at_call 58
            refine (less_any _ _ _).mono ?_
            rintro e w7 ⟨rfl, rfl⟩
            rw [LR.out]
            refine hK _ _ S0.out ?_
            clear hK K
            try simp only [Act.put, lqA, lqB, lqC, lqD, lqE, lqF]
            refine hm_run 13 52 (.bool false) rfl rfl (by kernel_rfl) (by kernel_rfl) (by kernel_rfl) (fun _ _ _ h => h) rfl (fun _ _ => rfl) S0.out ?_
            try simp only [Act.put, lqA, lqB, lqC, lqD, lqE, lqF]
            refine wpAnyH_done (by kernel_rfl) ?_ _
            go_upto_region 6 with fail
            refine wp_region_T (Φ := fun X => (NRow B X g n c d2 ∧ d2.size = n) ∧ Below B w X) (S := fun _ => True) (Lib.hid ⟨N.out, HB.out⟩) (fun X h => ⟨⟨h.1.1.below ((Below.refl _ _).drew), h.1.2⟩, h.2.drew⟩) (fun _ _ => trivial) (by kernel_rfl) ?_
            clear N HB
            intro wx TT S0
            have N := Lib.hid TT.out.1
            have HB := Lib.hid TT.out.2
            clear TT
            refine hm_run 0 53 (.slice (some ⟨g, 0, none⟩) n c) rfl rfl (by kernel_rfl) (by kernel_rfl) (by kernel_rfl) (fun _ _ _ h => h) rfl (fun _ _ => rfl) trivial ?_
            try simp only [Act.put, lqA, lqB, lqC, lqD, lqE, lqF]
            refine hm_run 1 54 (.int .i64 ((first : Nat) : Int)) rfl rfl (by kernel_rfl) (by kernel_rfl) (by kernel_rfl) (fun _ _ _ h => h) rfl (fun _ _ => rfl) trivial ?_
            try simp only [Act.put, lqA, lqB, lqC, lqD, lqE, lqF]
            refine hm_run 2 55 (.int .i64 ((r : Nat) : Int)) rfl rfl (by kernel_rfl) (by kernel_rfl) (by kernel_rfl) (fun _ _ _ h => h) rfl (fun _ _ => rfl) trivial ?_
            try simp only [Act.put, lqA, lqB, lqC, lqD, lqE, lqF]
            refine hm_run 3 56 (.int .i64 ((first + r : Nat) : Int)) rfl rfl (by kernel_rfl) (by kernel_rfl) (by kernel_rfl) (fun _ _ _ h => h) rfl (fun _ _ => exec_add rfl rfl rfl (by have := BND.out; rw [IntKind.wrap_i64]; omega)) trivial ?_
            try simp only [Act.put, lqA, lqB, lqC, lqD, lqE, lqF]
            refine hm_run 4 57 (.slice (some ⟨g, 0, none⟩) n c) rfl rfl (by kernel_rfl) (by kernel_rfl) (by kernel_rfl) (fun _ _ _ h => h) rfl (fun _ _ => rfl) trivial ?_
            try simp only [Act.put, lqA, lqB, lqC, lqD, lqE, lqF]
            refine hm_run 5 58 (.int .i64 ((first : Nat) : Int)) rfl rfl (by kernel_rfl) (by kernel_rfl) (by kernel_rfl) (fun _ _ _ h => h) rfl (fun _ _ => rfl) trivial ?_
            try simp only [Act.put, lqA, lqB, lqC, lqD, lqE, lqF]
            refine hm_run 6 59 (.int .i64 ((c2 : Nat) : Int)) rfl rfl (by kernel_rfl) (by kernel_rfl) (by kernel_rfl) (fun _ _ _ h => h) rfl (fun _ _ => rfl) trivial ?_
            try simp only [Act.put, lqA, lqB, lqC, lqD, lqE, lqF]
            refine hm_run 7 60 (.int .i64 ((first + c2 : Nat) : Int)) rfl rfl (by kernel_rfl) (by kernel_rfl) (by kernel_rfl) (fun _ _ _ h => h) rfl (fun _ _ => exec_add rfl rfl rfl (by have := BND.out; rw [IntKind.wrap_i64]; omega)) trivial ?_
            try simp only [Act.put, lqA, lqB, lqC, lqD, lqE, lqF]
            refine hm_run 8 61 (.slice (some ⟨g, 0, none⟩) n c) rfl rfl (by kernel_rfl) (by kernel_rfl) (by kernel_rfl) (fun _ _ _ h => h) rfl (fun _ _ => rfl) trivial ?_
            try simp only [Act.put, lqA, lqB, lqC, lqD, lqE, lqF]
            refine hm_run 9 62 (.int .i64 ((first : Nat) : Int)) rfl rfl (by kernel_rfl) (by kernel_rfl) (by kernel_rfl) (fun _ _ _ h => h) rfl (fun _ _ => rfl) trivial ?_
            try simp only [Act.put, lqA, lqB, lqC, lqD, lqE, lqF]
            refine hm_run 10 63 (.int .i64 ((c2 : Nat) : Int)) rfl rfl (by kernel_rfl) (by kernel_rfl) (by kernel_rfl) (fun _ _ _ h => h) rfl (fun _ _ => rfl) trivial ?_
            try simp only [Act.put, lqA, lqB, lqC, lqD, lqE, lqF]
            refine hm_run 11 64 (.int .i64 ((first + c2 : Nat) : Int)) rfl rfl (by kernel_rfl) (by kernel_rfl) (by kernel_rfl) (fun _ _ _ h => h) rfl (fun _ _ => exec_add rfl rfl rfl (by have := BND.out; rw [IntKind.wrap_i64]; omega)) trivial ?_
            try simp only [Act.put, lqA, lqB, lqC, lqD, lqE, lqF]
            refine hm_run 12 65 (.pointer (some ⟨g, 0 + (first + c2) * 1, none⟩)) rfl rfl (by kernel_rfl) (by kernel_rfl) (by kernel_rfl) (fun _ _ _ h => h) rfl (fun W _ => exec_ix rfl (run_ix (k := 1) (j := first + c2) Tryd.underlying54 (by kernel_rfl) (by have := BND.out; omega) rfl W)) trivial ?_
            try simp only [Act.put, lqA, lqB, lqC, lqD, lqE, lqF]
            refine hm_run 14 67 (.slice (some ⟨g, 0, none⟩) n c) rfl rfl (by kernel_rfl) (by kernel_rfl) (by kernel_rfl) (fun _ _ _ h => h) rfl (fun _ _ => rfl) trivial ?_
            try simp only [Act.put, lqA, lqB, lqC, lqD, lqE, lqF]
            refine hm_run 15 68 (.int .i64 ((first : Nat) : Int)) rfl rfl (by kernel_rfl) (by kernel_rfl) (by kernel_rfl) (fun _ _ _ h => h) rfl (fun _ _ => rfl) trivial ?_
            try simp only [Act.put, lqA, lqB, lqC, lqD, lqE, lqF]
            refine hm_run 16 69 (.int .i64 ((r : Nat) : Int)) rfl rfl (by kernel_rfl) (by kernel_rfl) (by kernel_rfl) (fun _ _ _ h => h) rfl (fun _ _ => rfl) trivial ?_
            try simp only [Act.put, lqA, lqB, lqC, lqD, lqE, lqF]
            refine hm_run 17 70 (.int .i64 ((first + r : Nat) : Int)) rfl rfl (by kernel_rfl) (by kernel_rfl) (by kernel_rfl) (fun _ _ _ h => h) rfl (fun _ _ => exec_add rfl rfl rfl (by have := BND.out; rw [IntKind.wrap_i64]; omega)) trivial ?_
            try simp only [Act.put, lqA, lqB, lqC, lqD, lqE, lqF]
            refine hm_run 18 71 (.pointer (some ⟨g, 0 + (first + r) * 1, none⟩)) rfl rfl (by kernel_rfl) (by kernel_rfl) (by kernel_rfl) (fun _ _ _ h => h) rfl (fun W _ => exec_ix rfl (run_ix (k := 1) (j := first + r) Tryd.underlying54 (by kernel_rfl) (by have := BND.out; omega) rfl W)) trivial ?_
            try simp only [Act.put, lqA, lqB, lqC, lqD, lqE, lqF]
            refine hm_two (i := 13) (j := 19) (by kernel_rfl) ?_ ?_
            · refine hm_step 13 rfl (by kernel_rfl) fun K hK => ?_
              try simp only [Act.put, lqA, lqB, lqC, lqD, lqE, lqF]
              refine mo_known (.int .u64 ((d2[first + c2]! : Nat) : Int)) _ (exec_load rfl (run_load_one Tryd.underlying59 rfl (cell_dn N (by have := BND.out; omega)))) ?_
              refine hK _ _ trivial ?_
              clear hK K
              try simp only [Act.put, lqA, lqB, lqC, lqD, lqE, lqF]
              refine hm_one (i := 19) (by kernel_rfl) ?_
              refine hm_step 19 rfl (by kernel_rfl) fun K hK => ?_
              try simp only [Act.put, lqA, lqB, lqC, lqD, lqE, lqF]
              refine mo_known (.int .u64 ((d2[first + r]! : Nat) : Int)) _ (exec_load rfl (run_load_one Tryd.underlying59 rfl (cell_dn N (by have := BND.out; omega)))) ?_
              refine hK _ _ trivial ?_
              clear hK K
              try simp only [Act.put, lqA, lqB, lqC, lqD, lqE, lqF]
              refine hm_run 20 73 (.pointer (some ⟨g, 0 + (first + r) * 1, none⟩)) rfl rfl (by kernel_rfl) (by kernel_rfl) (by kernel_rfl) (fun _ _ _ h => h) rfl (fun W _ => exec_ix rfl (run_ix (k := 1) (j := first + r) Tryd.underlying54 (by kernel_rfl) (by have := BND.out; omega) rfl W)) trivial ?_
              try simp only [Act.put, lqA, lqB, lqC, lqD, lqE, lqF]
              refine hm_one (i := 21) (by kernel_rfl) ?_
              refine hm_step 21 rfl (by kernel_rfl) fun K hK => ?_
              try simp only [Act.put, lqA, lqB, lqC, lqD, lqE, lqF]
              refine mo_vput (i := first + r) (v := d2[first + c2]!) (.tmp 73) (.tmp 66) rfl N rfl rfl (by have := BND.out; omega) ?_
              clear N
              intro w9 N hb9
              replace HB := Lib.hid (HB.out.trans hb9.out)
              clear hb9
              refine hK _ _ trivial ?_
              clear hK K
              try simp only [Act.put, lqA, lqB, lqC, lqD, lqE, lqF]
              refine hm_run 22 74 (.pointer (some ⟨g, 0 + (first + c2) * 1, none⟩)) rfl rfl (by kernel_rfl) (by kernel_rfl) (by kernel_rfl) (fun _ _ _ h => h) rfl (fun W _ => exec_ix rfl (run_ix (k := 1) (j := first + c2) Tryd.underlying54 (by kernel_rfl) (by have := BND.out; omega) rfl W)) trivial ?_
              try simp only [Act.put, lqA, lqB, lqC, lqD, lqE, lqF]
              refine hm_one (i := 23) (by kernel_rfl) ?_
              refine hm_step 23 rfl (by kernel_rfl) fun K hK => ?_
              try simp only [Act.put, lqA, lqB, lqC, lqD, lqE, lqF]
              refine mo_vput (i := first + c2) (v := d2[first + r]!) (.tmp 74) (.tmp 72) rfl N rfl rfl (by have := BND.out; omega) ?_
              clear N
              intro w9 N hb9
              replace HB := Lib.hid (HB.out.trans hb9.out)
              clear hb9
              refine hK _ _ trivial ?_
              clear hK K
              try simp only [Act.put, lqA, lqB, lqC, lqD, lqE, lqF]
              refine wpAnyH_done (by kernel_rfl) ?_ _
              go_wp2_with fail
              go_roundg (hi - c2)
              case measure => have := BND.out; omega
              case rel => exact ⟨c2, ((d2.setIfInBounds (first + r) d2[first + c2]!).setIfInBounds (first + c2) d2[first + r]!), by have := BND.out; omega, rfl, N, INX, HB⟩
            · refine hm_step 19 rfl (by kernel_rfl) fun K hK => ?_
              try simp only [Act.put, lqA, lqB, lqC, lqD, lqE, lqF]
              refine mo_known (.int .u64 ((d2[first + r]! : Nat) : Int)) _ (exec_load rfl (run_load_one Tryd.underlying59 rfl (cell_dn N (by have := BND.out; omega)))) ?_
              refine hK _ _ trivial ?_
              clear hK K
              try simp only [Act.put, lqA, lqB, lqC, lqD, lqE, lqF]
              refine hm_one (i := 13) (by kernel_rfl) ?_
              refine hm_step 13 rfl (by kernel_rfl) fun K hK => ?_
              try simp only [Act.put, lqA, lqB, lqC, lqD, lqE, lqF]
              refine mo_known (.int .u64 ((d2[first + c2]! : Nat) : Int)) _ (exec_load rfl (run_load_one Tryd.underlying59 rfl (cell_dn N (by have := BND.out; omega)))) ?_
              refine hK _ _ trivial ?_
              clear hK K
              try simp only [Act.put, lqA, lqB, lqC, lqD, lqE, lqF]
              refine hm_run 20 73 (.pointer (some ⟨g, 0 + (first + r) * 1, none⟩)) rfl rfl (by kernel_rfl) (by kernel_rfl) (by kernel_rfl) (fun _ _ _ h => h) rfl (fun W _ => exec_ix rfl (run_ix (k := 1) (j := first + r) Tryd.underlying54 (by kernel_rfl) (by have := BND.out; omega) rfl W)) trivial ?_
              try simp only [Act.put, lqA, lqB, lqC, lqD, lqE, lqF]
              refine hm_one (i := 21) (by kernel_rfl) ?_
              refine hm_step 21 rfl (by kernel_rfl) fun K hK => ?_
              try simp only [Act.put, lqA, lqB, lqC, lqD, lqE, lqF]
              refine mo_vput (i := first + r) (v := d2[first + c2]!) (.tmp 73) (.tmp 66) rfl N rfl rfl (by have := BND.out; omega) ?_
              clear N
              intro w9 N hb9
              replace HB := Lib.hid (HB.out.trans hb9.out)
              clear hb9
              refine hK _ _ trivial ?_
              clear hK K
              try simp only [Act.put, lqA, lqB, lqC, lqD, lqE, lqF]
              refine hm_run 22 74 (.pointer (some ⟨g, 0 + (first + c2) * 1, none⟩)) rfl rfl (by kernel_rfl) (by kernel_rfl) (by kernel_rfl) (fun _ _ _ h => h) rfl (fun W _ => exec_ix rfl (run_ix (k := 1) (j := first + c2) Tryd.underlying54 (by kernel_rfl) (by have := BND.out; omega) rfl W)) trivial ?_
              try simp only [Act.put, lqA, lqB, lqC, lqD, lqE, lqF]
              refine hm_one (i := 23) (by kernel_rfl) ?_
              refine hm_step 23 rfl (by kernel_rfl) fun K hK => ?_
              try simp only [Act.put, lqA, lqB, lqC, lqD, lqE, lqF]
              refine mo_vput (i := first + c2) (v := d2[first + r]!) (.tmp 74) (.tmp 72) rfl N rfl rfl (by have := BND.out; omega) ?_
              clear N
              intro w9 N hb9
              replace HB := Lib.hid (HB.out.trans hb9.out)
              clear hb9
              refine hK _ _ trivial ?_
              clear hK K
              try simp only [Act.put, lqA, lqB, lqC, lqD, lqE, lqF]
              refine wpAnyH_done (by kernel_rfl) ?_ _
              go_wp2_with fail
              go_roundg (hi - c2)
              case measure => have := BND.out; omega
              case rel => exact ⟨c2, ((d2.setIfInBounds (first + r) d2[first + c2]!).setIfInBounds (first + c2) d2[first + r]!), by have := BND.out; omega, rfl, N, INX, HB⟩
          · have LR := Lib.hid (decide_eq_false hr)
            have RX := Lib.hid (show d2 = R by
              have h := IN.out
              rw [sift_eq _ _ _ _ _ HCH.out, if_neg (by have := BND.out; omega), if_pos ⟨by have := BND.out; omega, of_decide_eq_true LC.out⟩] at h
              rw [← HC2.out] at h
              rw [if_pos hr] at h
              exact h)
            clear IN hr
            go_upto_region 5 with ((with_reducible refine wpList_at 38 rfl ?_); refine wpList_kn rfl (.int .i64 (c2 : Int)) (by exact exec_add rfl rfl rfl (by have := BND.out; rw [IntKind.wrap_i64]; omega)) ?_)
            refine wp_region_T (Φ := fun X => (NRow B X g n c d2 ∧ d2.size = n) ∧ Below B w X) (S := fun X => (NRow B X g n c d2 ∧ d2.size = n) ∧ Below B w X) (Lib.hid ⟨N.out, HB.out⟩) (fun X h => ⟨⟨h.1.1.below ((Below.refl _ _).drew), h.1.2⟩, h.2.drew⟩) (fun X h => h) (by kernel_rfl) ?_
            clear N HB
            intro wx TT S0
            have N := Lib.hid TT.out.1
            have HB := Lib.hid TT.out.2
            clear TT
            refine hm_run 0 39 (.slice (some ⟨g, 0, none⟩) n c) rfl rfl (by kernel_rfl) (by kernel_rfl) (by kernel_rfl) (fun _ _ _ h => h) rfl (fun _ _ => rfl) S0.out ?_
            try simp only [Act.put, lqA, lqB, lqC, lqD, lqE, lqF]
            refine hm_run 1 40 (.int .i64 ((first : Nat) : Int)) rfl rfl (by kernel_rfl) (by kernel_rfl) (by kernel_rfl) (fun _ _ _ h => h) rfl (fun _ _ => rfl) S0.out ?_
            try simp only [Act.put, lqA, lqB, lqC, lqD, lqE, lqF]
            refine hm_run 2 41 (.int .i64 ((r : Nat) : Int)) rfl rfl (by kernel_rfl) (by kernel_rfl) (by kernel_rfl) (fun _ _ _ h => h) rfl (fun _ _ => rfl) S0.out ?_
            try simp only [Act.put, lqA, lqB, lqC, lqD, lqE, lqF]
            refine hm_run 3 42 (.int .i64 ((first + r : Nat) : Int)) rfl rfl (by kernel_rfl) (by kernel_rfl) (by kernel_rfl) (fun _ _ _ h => h) rfl (fun _ _ => exec_add rfl rfl rfl (by have := BND.out; rw [IntKind.wrap_i64]; omega)) S0.out ?_
            try simp only [Act.put, lqA, lqB, lqC, lqD, lqE, lqF]
            refine hm_run 4 43 (.pointer (some ⟨g, 0 + (first + r) * 1, none⟩)) rfl rfl (by kernel_rfl) (by kernel_rfl) (by kernel_rfl) (fun _ _ _ h => h) rfl (fun W _ => exec_ix rfl (run_ix (k := 1) (j := first + r) Tryd.underlying54 (by kernel_rfl) (by have := BND.out; omega) rfl W)) S0.out ?_
            try simp only [Act.put, lqA, lqB, lqC, lqD, lqE, lqF]
            refine hm_run 5 44 (.int .u64 ((d2[first + r]! : Nat) : Int)) rfl rfl (by kernel_rfl) (by kernel_rfl) (by kernel_rfl) (fun _ _ _ h => h) rfl (fun W hW => exec_load rfl (run_load_one Tryd.underlying59 rfl (cell_dn (Lib.hid hW.1) (by have := BND.out; omega)))) S0.out ?_
            try simp only [Act.put, lqA, lqB, lqC, lqD, lqE, lqF]
            refine hm_run 6 45 (.slice (some ⟨g, 0, none⟩) n c) rfl rfl (by kernel_rfl) (by kernel_rfl) (by kernel_rfl) (fun _ _ _ h => h) rfl (fun _ _ => rfl) S0.out ?_
            try simp only [Act.put, lqA, lqB, lqC, lqD, lqE, lqF]
            refine hm_run 7 46 (.int .i64 ((first : Nat) : Int)) rfl rfl (by kernel_rfl) (by kernel_rfl) (by kernel_rfl) (fun _ _ _ h => h) rfl (fun _ _ => rfl) S0.out ?_
            try simp only [Act.put, lqA, lqB, lqC, lqD, lqE, lqF]
            refine hm_run 8 47 (.int .i64 ((c2 : Nat) : Int)) rfl rfl (by kernel_rfl) (by kernel_rfl) (by kernel_rfl) (fun _ _ _ h => h) rfl (fun _ _ => rfl) S0.out ?_
            try simp only [Act.put, lqA, lqB, lqC, lqD, lqE, lqF]
            refine hm_run 9 48 (.int .i64 ((first + c2 : Nat) : Int)) rfl rfl (by kernel_rfl) (by kernel_rfl) (by kernel_rfl) (fun _ _ _ h => h) rfl (fun _ _ => exec_add rfl rfl rfl (by have := BND.out; rw [IntKind.wrap_i64]; omega)) S0.out ?_
            try simp only [Act.put, lqA, lqB, lqC, lqD, lqE, lqF]
            refine hm_run 10 49 (.pointer (some ⟨g, 0 + (first + c2) * 1, none⟩)) rfl rfl (by kernel_rfl) (by kernel_rfl) (by kernel_rfl) (fun _ _ _ h => h) rfl (fun W _ => exec_ix rfl (run_ix (k := 1) (j := first + c2) Tryd.underlying54 (by kernel_rfl) (by have := BND.out; omega) rfl W)) S0.out ?_
            try simp only [Act.put, lqA, lqB, lqC, lqD, lqE, lqF]
            refine hm_run 11 50 (.int .u64 ((d2[first + c2]! : Nat) : Int)) rfl rfl (by kernel_rfl) (by kernel_rfl) (by kernel_rfl) (fun _ _ _ h => h) rfl (fun W hW => exec_load rfl (run_load_one Tryd.underlying59 rfl (cell_dn (Lib.hid hW.1) (by have := BND.out; omega)))) S0.out ?_
            try simp only [Act.put, lqA, lqB, lqC, lqD, lqE, lqF]
            refine hm_one (i := 12) (by kernel_rfl) ?_
            refine hm_step 12 rfl (by kernel_rfl) fun K hK => ?_
            try simp only [Act.put, lqA, lqB, lqC, lqD, lqE, lqF]
            go_simp
            go_at_call 58
            refine (less_any _ _ _).mono ?_
            rintro e w7 ⟨rfl, rfl⟩
            rw [LR.out]
            refine hK _ _ S0.out ?_
            clear hK K
            try simp only [Act.put, lqA, lqB, lqC, lqD, lqE, lqF]
            refine hm_run 13 52 (.bool true) rfl rfl (by kernel_rfl) (by kernel_rfl) (by kernel_rfl) (fun _ _ _ h => h) rfl (fun _ _ => rfl) S0.out ?_
            try simp only [Act.put, lqA, lqB, lqC, lqD, lqE, lqF]
            refine wpAnyH_done (by kernel_rfl) ?_ _
            go_wp2_with fail
            first | go_end0 | refine bodyPost_ret (results_none rfl _ _ _) rfl ?_
            exact ⟨rfl, by rw [← RX.out]; exact N.out, HB.out⟩
        · have LC := Lib.hid (decide_eq_false hl)
          clear hl
          go_upto_region 3 with (first | ((with_reducible refine wpList_at 12 rfl ?_); refine wpList_kn rfl (.int .i64 ((2 * r : Nat) : Int)) (by exact exec_mul rfl rfl rfl (by have := BND.out; rw [IntKind.wrap_i64]; omega)) ?_) | ((with_reducible refine wpList_at 13 rfl ?_); refine wpList_kn rfl (.int .i64 (ch : Int)) (by exact exec_add rfl rfl rfl (by have := BND.out; rw [IntKind.wrap_i64]; omega)) ?_) | ((with_reducible refine wpList_at 16 rfl ?_); refine wpList_kn rfl (.bool false) (by exact exec_geqN rfl rfl rfl GE.out) ?_))
          refine wp_region_T (Φ := fun X => (NRow B X g n c d2 ∧ d2.size = n) ∧ Below B w X) (S := fun X => (NRow B X g n c d2 ∧ d2.size = n) ∧ Below B w X) (Lib.hid ⟨N.out, HB.out⟩) (fun X h => ⟨⟨h.1.1.below ((Below.refl _ _).drew), h.1.2⟩, h.2.drew⟩) (fun X h => h) (by kernel_rfl) ?_
          clear N HB
          intro wx TT S0
          have N := Lib.hid TT.out.1
          have HB := Lib.hid TT.out.2
          clear TT
          refine hm_run 0 17 (.int .i64 ((ch : Nat) : Int)) rfl rfl (by kernel_rfl) (by kernel_rfl) (by kernel_rfl) (fun _ _ _ h => h) rfl (fun _ _ => rfl) S0.out ?_
          try simp only [Act.put, lqA, lqB, lqC, lqD, lqE, lqF]
          refine hm_run 1 18 (.int .i64 ((ch + 1 : Nat) : Int)) rfl rfl (by kernel_rfl) (by kernel_rfl) (by kernel_rfl) (fun _ _ _ h => h) rfl (fun _ _ => exec_add rfl rfl rfl (by have := BND.out; rw [IntKind.wrap_i64]; omega)) S0.out ?_
          try simp only [Act.put, lqA, lqB, lqC, lqD, lqE, lqF]
          refine hm_run 2 19 (.int .i64 ((hi : Nat) : Int)) rfl rfl (by kernel_rfl) (by kernel_rfl) (by kernel_rfl) (fun _ _ _ h => h) rfl (fun _ _ => rfl) S0.out ?_
          try simp only [Act.put, lqA, lqB, lqC, lqD, lqE, lqF]
          refine hm_run 3 20 (.bool true) rfl rfl (by kernel_rfl) (by kernel_rfl) (by kernel_rfl) (fun _ _ _ h => h) rfl (fun _ _ => exec_lssi rfl rfl rfl L1.out) S0.out ?_
          try simp only [Act.put, lqA, lqB, lqC, lqD, lqE, lqF]
          refine hm_run 4 21 (.bool true) rfl rfl (by kernel_rfl) (by kernel_rfl) (by kernel_rfl) (fun _ _ _ h => h) rfl (fun _ _ => rfl) S0.out ?_
          try simp only [Act.put, lqA, lqB, lqC, lqD, lqE, lqF]
          refine hm_run 5 22 (.slice (some ⟨g, 0, none⟩) n c) rfl rfl (by kernel_rfl) (by kernel_rfl) (by kernel_rfl) (fun _ _ _ h => h) rfl (fun _ _ => rfl) S0.out ?_
          try simp only [Act.put, lqA, lqB, lqC, lqD, lqE, lqF]
          refine hm_run 6 23 (.int .i64 ((first : Nat) : Int)) rfl rfl (by kernel_rfl) (by kernel_rfl) (by kernel_rfl) (fun _ _ _ h => h) rfl (fun _ _ => rfl) S0.out ?_
          try simp only [Act.put, lqA, lqB, lqC, lqD, lqE, lqF]
          refine hm_run 7 24 (.int .i64 ((ch : Nat) : Int)) rfl rfl (by kernel_rfl) (by kernel_rfl) (by kernel_rfl) (fun _ _ _ h => h) rfl (fun _ _ => rfl) S0.out ?_
          try simp only [Act.put, lqA, lqB, lqC, lqD, lqE, lqF]
          refine hm_run 8 25 (.int .i64 ((first + ch : Nat) : Int)) rfl rfl (by kernel_rfl) (by kernel_rfl) (by kernel_rfl) (fun _ _ _ h => h) rfl (fun _ _ => exec_add rfl rfl rfl (by have := BND.out; rw [IntKind.wrap_i64]; omega)) S0.out ?_
          try simp only [Act.put, lqA, lqB, lqC, lqD, lqE, lqF]
          refine hm_run 9 26 (.pointer (some ⟨g, 0 + (first + ch) * 1, none⟩)) rfl rfl (by kernel_rfl) (by kernel_rfl) (by kernel_rfl) (fun _ _ _ h => h) rfl (fun W _ => exec_ix rfl (run_ix (k := 1) (j := first + ch) Tryd.underlying54 (by kernel_rfl) (by have := BND.out; omega) rfl W)) S0.out ?_
          try simp only [Act.put, lqA, lqB, lqC, lqD, lqE, lqF]
          refine hm_run 10 27 (.int .u64 ((d2[first + ch]! : Nat) : Int)) rfl rfl (by kernel_rfl) (by kernel_rfl) (by kernel_rfl) (fun _ _ _ h => h) rfl (fun W hW => exec_load rfl (run_load_one Tryd.underlying59 rfl (cell_dn (Lib.hid hW.1) (by have := BND.out; omega)))) S0.out ?_
          try simp only [Act.put, lqA, lqB, lqC, lqD, lqE, lqF]
          refine hm_run 11 28 (.slice (some ⟨g, 0, none⟩) n c) rfl rfl (by kernel_rfl) (by kernel_rfl) (by kernel_rfl) (fun _ _ _ h => h) rfl (fun _ _ => rfl) S0.out ?_
          try simp only [Act.put, lqA, lqB, lqC, lqD, lqE, lqF]
          refine hm_run 12 29 (.int .i64 ((first : Nat) : Int)) rfl rfl (by kernel_rfl) (by kernel_rfl) (by kernel_rfl) (fun _ _ _ h => h) rfl (fun _ _ => rfl) S0.out ?_
          try simp only [Act.put, lqA, lqB, lqC, lqD, lqE, lqF]
          refine hm_run 13 30 (.int .i64 ((ch : Nat) : Int)) rfl rfl (by kernel_rfl) (by kernel_rfl) (by kernel_rfl) (fun _ _ _ h => h) rfl (fun _ _ => rfl) S0.out ?_
          try simp only [Act.put, lqA, lqB, lqC, lqD, lqE, lqF]
          refine hm_run 14 31 (.int .i64 ((first + ch : Nat) : Int)) rfl rfl (by kernel_rfl) (by kernel_rfl) (by kernel_rfl) (fun _ _ _ h => h) rfl (fun _ _ => exec_add rfl rfl rfl (by have := BND.out; rw [IntKind.wrap_i64]; omega)) S0.out ?_
          try simp only [Act.put, lqA, lqB, lqC, lqD, lqE, lqF]
          refine hm_run 15 32 (.int .i64 ((first + ch + 1 : Nat) : Int)) rfl rfl (by kernel_rfl) (by kernel_rfl) (by kernel_rfl) (fun _ _ _ h => h) rfl (fun _ _ => exec_add rfl rfl rfl (by have := BND.out; rw [IntKind.wrap_i64]; omega)) S0.out ?_
          try simp only [Act.put, lqA, lqB, lqC, lqD, lqE, lqF]
          refine hm_run 16 33 (.pointer (some ⟨g, 0 + (first + ch + 1) * 1, none⟩)) rfl rfl (by kernel_rfl) (by kernel_rfl) (by kernel_rfl) (fun _ _ _ h => h) rfl (fun W _ => exec_ix rfl (run_ix (k := 1) (j := first + ch + 1) Tryd.underlying54 (by kernel_rfl) (by have := BND.out; omega) rfl W)) S0.out ?_
          try simp only [Act.put, lqA, lqB, lqC, lqD, lqE, lqF]
          refine hm_run 17 34 (.int .u64 ((d2[first + ch + 1]! : Nat) : Int)) rfl rfl (by kernel_rfl) (by kernel_rfl) (by kernel_rfl) (fun _ _ _ h => h) rfl (fun W hW => exec_load rfl (run_load_one Tryd.underlying59 rfl (cell_dn (Lib.hid hW.1) (by have := BND.out; omega)))) S0.out ?_
          try simp only [Act.put, lqA, lqB, lqC, lqD, lqE, lqF]
          refine hm_one (i := 18) (by kernel_rfl) ?_
          refine hm_step 18 rfl (by kernel_rfl) fun K hK => ?_
          try simp only [Act.put, lqA, lqB, lqC, lqD, lqE, lqF]
          go_simp
          go_at_call 58
          refine (less_any _ _ _).mono ?_
          rintro e w7 ⟨rfl, rfl⟩
          rw [LC.out]
          refine hK _ _ S0.out ?_
          clear hK K
          try simp only [Act.put, lqA, lqB, lqC, lqD, lqE, lqF]
          refine hm_run 19 36 (.bool false) rfl rfl (by kernel_rfl) (by kernel_rfl) (by kernel_rfl) (fun _ _ _ h => h) rfl (fun _ _ => rfl) S0.out ?_
          try simp only [Act.put, lqA, lqB, lqC, lqD, lqE, lqF]
          refine wpAnyH_done (by kernel_rfl) ?_ _
          by_cases hr : d2[first + r]! < d2[first + ch]!
          · have LR := Lib.hid (decide_eq_true hr)
            have INX := Lib.hid (show Go.Sort.siftDown ltN hi first ch (Go.Sort.swp d2 (first + r) (first + ch)) = R by
              have h := IN.out
              rw [sift_eq _ _ _ _ _ HCH.out, if_neg (by have := BND.out; omega), if_neg (fun hh => of_decide_eq_false LC.out hh.2)] at h
              skip
              rw [if_neg (fun hh => hh hr)] at h
              exact h)
            clear IN hr
            go_upto_region 5 with fail
            refine wp_region_T (Φ := fun X => (NRow B X g n c d2 ∧ d2.size = n) ∧ Below B w X) (S := fun X => (NRow B X g n c d2 ∧ d2.size = n) ∧ Below B w X) (Lib.hid ⟨N.out, HB.out⟩) (fun X h => ⟨⟨h.1.1.below ((Below.refl _ _).drew), h.1.2⟩, h.2.drew⟩) (fun X h => h) (by kernel_rfl) ?_
            clear N HB
            intro wx TT S0
            have N := Lib.hid TT.out.1
            have HB := Lib.hid TT.out.2
            clear TT
            refine hm_run 0 39 (.slice (some ⟨g, 0, none⟩) n c) rfl rfl (by kernel_rfl) (by kernel_rfl) (by kernel_rfl) (fun _ _ _ h => h) rfl (fun _ _ => rfl) S0.out ?_
            try simp only [Act.put, lqA, lqB, lqC, lqD, lqE, lqF]
            refine hm_run 1 40 (.int .i64 ((first : Nat) : Int)) rfl rfl (by kernel_rfl) (by kernel_rfl) (by kernel_rfl) (fun _ _ _ h => h) rfl (fun _ _ => rfl) S0.out ?_
            try simp only [Act.put, lqA, lqB, lqC, lqD, lqE, lqF]
            refine hm_run 2 41 (.int .i64 ((r : Nat) : Int)) rfl rfl (by kernel_rfl) (by kernel_rfl) (by kernel_rfl) (fun _ _ _ h => h) rfl (fun _ _ => rfl) S0.out ?_
            try simp only [Act.put, lqA, lqB, lqC, lqD, lqE, lqF]
            refine hm_run 3 42 (.int .i64 ((first + r : Nat) : Int)) rfl rfl (by kernel_rfl) (by kernel_rfl) (by kernel_rfl) (fun _ _ _ h => h) rfl (fun _ _ => exec_add rfl rfl rfl (by have := BND.out; rw [IntKind.wrap_i64]; omega)) S0.out ?_
            try simp only [Act.put, lqA, lqB, lqC, lqD, lqE, lqF]
            refine hm_run 4 43 (.pointer (some ⟨g, 0 + (first + r) * 1, none⟩)) rfl rfl (by kernel_rfl) (by kernel_rfl) (by kernel_rfl) (fun _ _ _ h => h) rfl (fun W _ => exec_ix rfl (run_ix (k := 1) (j := first + r) Tryd.underlying54 (by kernel_rfl) (by have := BND.out; omega) rfl W)) S0.out ?_
            try simp only [Act.put, lqA, lqB, lqC, lqD, lqE, lqF]
            refine hm_run 5 44 (.int .u64 ((d2[first + r]! : Nat) : Int)) rfl rfl (by kernel_rfl) (by kernel_rfl) (by kernel_rfl) (fun _ _ _ h => h) rfl (fun W hW => exec_load rfl (run_load_one Tryd.underlying59 rfl (cell_dn (Lib.hid hW.1) (by have := BND.out; omega)))) S0.out ?_
            try simp only [Act.put, lqA, lqB, lqC, lqD, lqE, lqF]
            refine hm_run 6 45 (.slice (some ⟨g, 0, none⟩) n c) rfl rfl (by kernel_rfl) (by kernel_rfl) (by kernel_rfl) (fun _ _ _ h => h) rfl (fun _ _ => rfl) S0.out ?_
            try simp only [Act.put, lqA, lqB, lqC, lqD, lqE, lqF]
            refine hm_run 7 46 (.int .i64 ((first : Nat) : Int)) rfl rfl (by kernel_rfl) (by kernel_rfl) (by kernel_rfl) (fun _ _ _ h => h) rfl (fun _ _ => rfl) S0.out ?_
            try simp only [Act.put, lqA, lqB, lqC, lqD, lqE, lqF]
            refine hm_run 8 47 (.int .i64 ((ch : Nat) : Int)) rfl rfl (by kernel_rfl) (by kernel_rfl) (by kernel_rfl) (fun _ _ _ h => h) rfl (fun _ _ => rfl) S0.out ?_
            try simp only [Act.put, lqA, lqB, lqC, lqD, lqE, lqF]
            refine hm_run 9 48 (.int .i64 ((first + ch : Nat) : Int)) rfl rfl (by kernel_rfl) (by kernel_rfl) (by kernel_rfl) (fun _ _ _ h => h) rfl (fun _ _ => exec_add rfl rfl rfl (by have := BND.out; rw [IntKind.wrap_i64]; omega)) S0.out ?_
            try simp only [Act.put, lqA, lqB, lqC, lqD, lqE, lqF]
            refine hm_run 10 49 (.pointer (some ⟨g, 0 + (first + ch) * 1, none⟩)) rfl rfl (by kernel_rfl) (by kernel_rfl) (by kernel_rfl) (fun _ _ _ h => h) rfl (fun W _ => exec_ix rfl (run_ix (k := 1) (j := first + ch) Tryd.underlying54 (by kernel_rfl) (by have := BND.out; omega) rfl W)) S0.out ?_
            try simp only [Act.put, lqA, lqB, lqC, lqD, lqE, lqF]
            refine hm_run 11 50 (.int .u64 ((d2[first + ch]! : Nat) : Int)) rfl rfl (by kernel_rfl) (by kernel_rfl) (by kernel_rfl) (fun _ _ _ h => h) rfl (fun W hW => exec_load rfl (run_load_one Tryd.underlying59 rfl (cell_dn (Lib.hid hW.1) (by have := BND.out; omega)))) S0.out ?_
            try simp only [Act.put, lqA, lqB, lqC, lqD, lqE, lqF]
            refine hm_one (i := 12) (by kernel_rfl) ?_
            refine hm_step 12 rfl (by kernel_rfl) fun K hK => ?_
            try simp only [Act.put, lqA, lqB, lqC, lqD, lqE, lqF]
            go_simp
            go_at_call 58
            refine (less_any _ _ _).mono ?_
            rintro e w7 ⟨rfl, rfl⟩
            rw [LR.out]
            refine hK _ _ S0.out ?_
            clear hK K
            try simp only [Act.put, lqA, lqB, lqC, lqD, lqE, lqF]
            refine hm_run 13 52 (.bool false) rfl rfl (by kernel_rfl) (by kernel_rfl) (by kernel_rfl) (fun _ _ _ h => h) rfl (fun _ _ => rfl) S0.out ?_
            try simp only [Act.put, lqA, lqB, lqC, lqD, lqE, lqF]
            refine wpAnyH_done (by kernel_rfl) ?_ _
            go_upto_region 6 with fail
            refine wp_region_T (Φ := fun X => (NRow B X g n c d2 ∧ d2.size = n) ∧ Below B w X) (S := fun _ => True) (Lib.hid ⟨N.out, HB.out⟩) (fun X h => ⟨⟨h.1.1.below ((Below.refl _ _).drew), h.1.2⟩, h.2.drew⟩) (fun _ _ => trivial) (by kernel_rfl) ?_
            clear N HB
            intro wx TT S0
            have N := Lib.hid TT.out.1
            have HB := Lib.hid TT.out.2
            clear TT
            refine hm_run 0 53 (.slice (some ⟨g, 0, none⟩) n c) rfl rfl (by kernel_rfl) (by kernel_rfl) (by kernel_rfl) (fun _ _ _ h => h) rfl (fun _ _ => rfl) trivial ?_
            try simp only [Act.put, lqA, lqB, lqC, lqD, lqE, lqF]
            refine hm_run 1 54 (.int .i64 ((first : Nat) : Int)) rfl rfl (by kernel_rfl) (by kernel_rfl) (by kernel_rfl) (fun _ _ _ h => h) rfl (fun _ _ => rfl) trivial ?_
            try simp only [Act.put, lqA, lqB, lqC, lqD, lqE, lqF]
            refine hm_run 2 55 (.int .i64 ((r : Nat) : Int)) rfl rfl (by kernel_rfl) (by kernel_rfl) (by kernel_rfl) (fun _ _ _ h => h) rfl (fun _ _ => rfl) trivial ?_
            try simp only [Act.put, lqA, lqB, lqC, lqD, lqE, lqF]
            refine hm_run 3 56 (.int .i64 ((first + r : Nat) : Int)) rfl rfl (by kernel_rfl) (by kernel_rfl) (by kernel_rfl) (fun _ _ _ h => h) rfl (fun _ _ => exec_add rfl rfl rfl (by have := BND.out; rw [IntKind.wrap_i64]; omega)) trivial ?_
            try simp only [Act.put, lqA, lqB, lqC, lqD, lqE, lqF]
            refine hm_run 4 57 (.slice (some ⟨g, 0, none⟩) n c) rfl rfl (by kernel_rfl) (by kernel_rfl) (by kernel_rfl) (fun _ _ _ h => h) rfl (fun _ _ => rfl) trivial ?_
            try simp only [Act.put, lqA, lqB, lqC, lqD, lqE, lqF]
            refine hm_run 5 58 (.int .i64 ((first : Nat) : Int)) rfl rfl (by kernel_rfl) (by kernel_rfl) (by kernel_rfl) (fun _ _ _ h => h) rfl (fun _ _ => rfl) trivial ?_
            try simp only [Act.put, lqA, lqB, lqC, lqD, lqE, lqF]
            refine hm_run 6 59 (.int .i64 ((ch : Nat) : Int)) rfl rfl (by kernel_rfl) (by kernel_rfl) (by kernel_rfl) (fun _ _ _ h => h) rfl (fun _ _ => rfl) trivial ?_
            try simp only [Act.put, lqA, lqB, lqC, lqD, lqE, lqF]
            refine hm_run 7 60 (.int .i64 ((first + ch : Nat) : Int)) rfl rfl (by kernel_rfl) (by kernel_rfl) (by kernel_rfl) (fun _ _ _ h => h) rfl (fun _ _ => exec_add rfl rfl rfl (by have := BND.out; rw [IntKind.wrap_i64]; omega)) trivial ?_
            try simp only [Act.put, lqA, lqB, lqC, lqD, lqE, lqF]
            refine hm_run 8 61 (.slice (some ⟨g, 0, none⟩) n c) rfl rfl (by kernel_rfl) (by kernel_rfl) (by kernel_rfl) (fun _ _ _ h => h) rfl (fun _ _ => rfl) trivial ?_
            try simp only [Act.put, lqA, lqB, lqC, lqD, lqE, lqF]
            refine hm_run 9 62 (.int .i64 ((first : Nat) : Int)) rfl rfl (by kernel_rfl) (by kernel_rfl) (by kernel_rfl) (fun _ _ _ h => h) rfl (fun _ _ => rfl) trivial ?_
            try simp only [Act.put, lqA, lqB, lqC, lqD, lqE, lqF]
            refine hm_run 10 63 (.int .i64 ((ch : Nat) : Int)) rfl rfl (by kernel_rfl) (by kernel_rfl) (by kernel_rfl) (fun _ _ _ h => h) rfl (fun _ _ => rfl) trivial ?_
            try simp only [Act.put, lqA, lqB, lqC, lqD, lqE, lqF]
            refine hm_run 11 64 (.int .i64 ((first + ch : Nat) : Int)) rfl rfl (by kernel_rfl) (by kernel_rfl) (by kernel_rfl) (fun _ _ _ h => h) rfl (fun _ _ => exec_add rfl rfl rfl (by have := BND.out; rw [IntKind.wrap_i64]; omega)) trivial ?_
            try simp only [Act.put, lqA, lqB, lqC, lqD, lqE, lqF]
            refine hm_run 12 65 (.pointer (some ⟨g, 0 + (first + ch) * 1, none⟩)) rfl rfl (by kernel_rfl) (by kernel_rfl) (by kernel_rfl) (fun _ _ _ h => h) rfl (fun W _ => exec_ix rfl (run_ix (k := 1) (j := first + ch) Tryd.underlying54 (by kernel_rfl) (by have := BND.out; omega) rfl W)) trivial ?_
            try simp only [Act.put, lqA, lqB, lqC, lqD, lqE, lqF]
            refine hm_run 14 67 (.slice (some ⟨g, 0, none⟩) n c) rfl rfl (by kernel_rfl) (by kernel_rfl) (by kernel_rfl) (fun _ _ _ h => h) rfl (fun _ _ => rfl) trivial ?_
            try simp only [Act.put, lqA, lqB, lqC, lqD, lqE, lqF]
            refine hm_run 15 68 (.int .i64 ((first : Nat) : Int)) rfl rfl (by kernel_rfl) (by kernel_rfl) (by kernel_rfl) (fun _ _ _ h => h) rfl (fun _ _ => rfl) trivial ?_
            try simp only [Act.put, lqA, lqB, lqC, lqD, lqE, lqF]
            refine hm_run 16 69 (.int .i64 ((r : Nat) : Int)) rfl rfl (by kernel_rfl) (by kernel_rfl) (by kernel_rfl) (fun _ _ _ h => h) rfl (fun _ _ => rfl) trivial ?_
            try simp only [Act.put, lqA, lqB, lqC, lqD, lqE, lqF]
            refine hm_run 17 70 (.int .i64 ((first + r : Nat) : Int)) rfl rfl (by kernel_rfl) (by kernel_rfl) (by kernel_rfl) (fun _ _ _ h => h) rfl (fun _ _ => exec_add rfl rfl rfl (by have := BND.out; rw [IntKind.wrap_i64]; omega)) trivial ?_
            try simp only [Act.put, lqA, lqB, lqC, lqD, lqE, lqF]
            refine hm_run 18 71 (.pointer (some ⟨g, 0 + (first + r) * 1, none⟩)) rfl rfl (by kernel_rfl) (by kernel_rfl) (by kernel_rfl) (fun _ _ _ h => h) rfl (fun W _ => exec_ix rfl (run_ix (k := 1) (j := first + r) Tryd.underlying54 (by kernel_rfl) (by have := BND.out; omega) rfl W)) trivial ?_
            try simp only [Act.put, lqA, lqB, lqC, lqD, lqE, lqF]
            refine hm_two (i := 13) (j := 19) (by kernel_rfl) ?_ ?_
            · refine hm_step 13 rfl (by kernel_rfl) fun K hK => ?_
              try simp only [Act.put, lqA, lqB, lqC, lqD, lqE, lqF]
              refine mo_known (.int .u64 ((d2[first + ch]! : Nat) : Int)) _ (exec_load rfl (run_load_one Tryd.underlying59 rfl (cell_dn N (by have := BND.out; omega)))) ?_
              refine hK _ _ trivial ?_
              clear hK K
              try simp only [Act.put, lqA, lqB, lqC, lqD, lqE, lqF]
              refine hm_one (i := 19) (by kernel_rfl) ?_
              refine hm_step 19 rfl (by kernel_rfl) fun K hK => ?_
              try simp only [Act.put, lqA, lqB, lqC, lqD, lqE, lqF]
              refine mo_known (.int .u64 ((d2[first + r]! : Nat) : Int)) _ (exec_load rfl (run_load_one Tryd.underlying59 rfl (cell_dn N (by have := BND.out; omega)))) ?_
              refine hK _ _ trivial ?_
              clear hK K
              try simp only [Act.put, lqA, lqB, lqC, lqD, lqE, lqF]
              refine hm_run 20 73 (.pointer (some ⟨g, 0 + (first + r) * 1, none⟩)) rfl rfl (by kernel_rfl) (by kernel_rfl) (by kernel_rfl) (fun _ _ _ h => h) rfl (fun W _ => exec_ix rfl (run_ix (k := 1) (j := first + r) Tryd.underlying54 (by kernel_rfl) (by have := BND.out; omega) rfl W)) trivial ?_
              try simp only [Act.put, lqA, lqB, lqC, lqD, lqE, lqF]
              refine hm_one (i := 21) (by kernel_rfl) ?_
              refine hm_step 21 rfl (by kernel_rfl) fun K hK => ?_
              try simp only [Act.put, lqA, lqB, lqC, lqD, lqE, lqF]
              refine mo_vput (i := first + r) (v := d2[first + ch]!) (.tmp 73) (.tmp 66) rfl N rfl rfl (by have := BND.out; omega) ?_
              clear N
              intro w9 N hb9
              replace HB := Lib.hid (HB.out.trans hb9.out)
              clear hb9
              refine hK _ _ trivial ?_
              clear hK K
              try simp only [Act.put, lqA, lqB, lqC, lqD, lqE, lqF]
              refine hm_run 22 74 (.pointer (some ⟨g, 0 + (first + ch) * 1, none⟩)) rfl rfl (by kernel_rfl) (by kernel_rfl) (by kernel_rfl) (fun _ _ _ h => h) rfl (fun W _ => exec_ix rfl (run_ix (k := 1) (j := first + ch) Tryd.underlying54 (by kernel_rfl) (by have := BND.out; omega) rfl W)) trivial ?_
              try simp only [Act.put, lqA, lqB, lqC, lqD, lqE, lqF]
              refine hm_one (i := 23) (by kernel_rfl) ?_
              refine hm_step 23 rfl (by kernel_rfl) fun K hK => ?_
              try simp only [Act.put, lqA, lqB, lqC, lqD, lqE, lqF]
              refine mo_vput (i := first + ch) (v := d2[first + r]!) (.tmp 74) (.tmp 72) rfl N rfl rfl (by have := BND.out; omega) ?_
              clear N
              intro w9 N hb9
              replace HB := Lib.hid (HB.out.trans hb9.out)
              clear hb9
              refine hK _ _ trivial ?_
              clear hK K
              try simp only [Act.put, lqA, lqB, lqC, lqD, lqE, lqF]
              refine wpAnyH_done (by kernel_rfl) ?_ _
              go_wp2_with fail
              go_roundg (hi - ch)
              case measure => have := BND.out; omega
              case rel => exact ⟨ch, ((d2.setIfInBounds (first + r) d2[first + ch]!).setIfInBounds (first + ch) d2[first + r]!), by have := BND.out; omega, rfl, N, INX, HB⟩
            · refine hm_step 19 rfl (by kernel_rfl) fun K hK => ?_
              try simp only [Act.put, lqA, lqB, lqC, lqD, lqE, lqF]
              refine mo_known (.int .u64 ((d2[first + r]! : Nat) : Int)) _ (exec_load rfl (run_load_one Tryd.underlying59 rfl (cell_dn N (by have := BND.out; omega)))) ?_
              refine hK _ _ trivial ?_
              clear hK K
              try simp only [Act.put, lqA, lqB, lqC, lqD, lqE, lqF]
              refine hm_one (i := 13) (by kernel_rfl) ?_
              refine hm_step 13 rfl (by kernel_rfl) fun K hK => ?_
              try simp only [Act.put, lqA, lqB, lqC, lqD, lqE, lqF]
              refine mo_known (.int .u64 ((d2[first + ch]! : Nat) : Int)) _ (exec_load rfl (run_load_one Tryd.underlying59 rfl (cell_dn N (by have := BND.out; omega)))) ?_
              refine hK _ _ trivial ?_
              clear hK K
              try simp only [Act.put, lqA, lqB, lqC, lqD, lqE, lqF]
              refine hm_run 20 73 (.pointer (some ⟨g, 0 + (first + r) * 1, none⟩)) rfl rfl (by kernel_rfl) (by kernel_rfl) (by kernel_rfl) (fun _ _ _ h => h) rfl (fun W _ => exec_ix rfl (run_ix (k := 1) (j := first + r) Tryd.underlying54 (by kernel_rfl) (by have := BND.out; omega) rfl W)) trivial ?_
              try simp only [Act.put, lqA, lqB, lqC, lqD, lqE, lqF]
              refine hm_one (i := 21) (by kernel_rfl) ?_
              refine hm_step 21 rfl (by kernel_rfl) fun K hK => ?_
              try simp only [Act.put, lqA, lqB, lqC, lqD, lqE, lqF]
              refine mo_vput (i := first + r) (v := d2[first + ch]!) (.tmp 73) (.tmp 66) rfl N rfl rfl (by have := BND.out; omega) ?_
              clear N
              intro w9 N hb9
              replace HB := Lib.hid (HB.out.trans hb9.out)
              clear hb9
              refine hK _ _ trivial ?_
              clear hK K
              try simp only [Act.put, lqA, lqB, lqC, lqD, lqE, lqF]
              refine hm_run 22 74 (.pointer (some ⟨g, 0 + (first + ch) * 1, none⟩)) rfl rfl (by kernel_rfl) (by kernel_rfl) (by kernel_rfl) (fun _ _ _ h => h) rfl (fun W _ => exec_ix rfl (run_ix (k := 1) (j := first + ch) Tryd.underlying54 (by kernel_rfl) (by have := BND.out; omega) rfl W)) trivial ?_
              try simp only [Act.put, lqA, lqB, lqC, lqD, lqE, lqF]
              refine hm_one (i := 23) (by kernel_rfl) ?_
              refine hm_step 23 rfl (by kernel_rfl) fun K hK => ?_
              try simp only [Act.put, lqA, lqB, lqC, lqD, lqE, lqF]
              refine mo_vput (i := first + ch) (v := d2[first + r]!) (.tmp 74) (.tmp 72) rfl N rfl rfl (by have := BND.out; omega) ?_
              clear N
              intro w9 N hb9
              replace HB := Lib.hid (HB.out.trans hb9.out)
              clear hb9
              refine hK _ _ trivial ?_
              clear hK K
              try simp only [Act.put, lqA, lqB, lqC, lqD, lqE, lqF]
              refine wpAnyH_done (by kernel_rfl) ?_ _
              go_wp2_with fail
              go_roundg (hi - ch)
              case measure => have := BND.out; omega
              case rel => exact ⟨ch, ((d2.setIfInBounds (first + r) d2[first + ch]!).setIfInBounds (first + ch) d2[first + r]!), by have := BND.out; omega, rfl, N, INX, HB⟩
          · have LR := Lib.hid (decide_eq_false hr)
            have RX := Lib.hid (show d2 = R by
              have h := IN.out
              rw [sift_eq _ _ _ _ _ HCH.out, if_neg (by have := BND.out; omega), if_neg (fun hh => of_decide_eq_false LC.out hh.2)] at h
              skip
              rw [if_pos hr] at h
              exact h)
            clear IN hr
            go_upto_region 5 with fail
            refine wp_region_T (Φ := fun X => (NRow B X g n c d2 ∧ d2.size = n) ∧ Below B w X) (S := fun X => (NRow B X g n c d2 ∧ d2.size = n) ∧ Below B w X) (Lib.hid ⟨N.out, HB.out⟩) (fun X h => ⟨⟨h.1.1.below ((Below.refl _ _).drew), h.1.2⟩, h.2.drew⟩) (fun X h => h) (by kernel_rfl) ?_
            clear N HB
            intro wx TT S0
            have N := Lib.hid TT.out.1
            have HB := Lib.hid TT.out.2
            clear TT
            refine hm_run 0 39 (.slice (some ⟨g, 0, none⟩) n c) rfl rfl (by kernel_rfl) (by kernel_rfl) (by kernel_rfl) (fun _ _ _ h => h) rfl (fun _ _ => rfl) S0.out ?_
            try simp only [Act.put, lqA, lqB, lqC, lqD, lqE, lqF]
            refine hm_run 1 40 (.int .i64 ((first : Nat) : Int)) rfl rfl (by kernel_rfl) (by kernel_rfl) (by kernel_rfl) (fun _ _ _ h => h) rfl (fun _ _ => rfl) S0.out ?_
            try simp only [Act.put, lqA, lqB, lqC, lqD, lqE, lqF]
            refine hm_run 2 41 (.int .i64 ((r : Nat) : Int)) rfl rfl (by kernel_rfl) (by kernel_rfl) (by kernel_rfl) (fun _ _ _ h => h) rfl (fun _ _ => rfl) S0.out ?_
            try simp only [Act.put, lqA, lqB, lqC, lqD, lqE, lqF]
            refine hm_run 3 42 (.int .i64 ((first + r : Nat) : Int)) rfl rfl (by kernel_rfl) (by kernel_rfl) (by kernel_rfl) (fun _ _ _ h => h) rfl (fun _ _ => exec_add rfl rfl rfl (by have := BND.out; rw [IntKind.wrap_i64]; omega)) S0.out ?_
            try simp only [Act.put, lqA, lqB, lqC, lqD, lqE, lqF]
            refine hm_run 4 43 (.pointer (some ⟨g, 0 + (first + r) * 1, none⟩)) rfl rfl (by kernel_rfl) (by kernel_rfl) (by kernel_rfl) (fun _ _ _ h => h) rfl (fun W _ => exec_ix rfl (run_ix (k := 1) (j := first + r) Tryd.underlying54 (by kernel_rfl) (by have := BND.out; omega) rfl W)) S0.out ?_
            try simp only [Act.put, lqA, lqB, lqC, lqD, lqE, lqF]
            refine hm_run 5 44 (.int .u64 ((d2[first + r]! : Nat) : Int)) rfl rfl (by kernel_rfl) (by kernel_rfl) (by kernel_rfl) (fun _ _ _ h => h) rfl (fun W hW => exec_load rfl (run_load_one Tryd.underlying59 rfl (cell_dn (Lib.hid hW.1) (by have := BND.out; omega)))) S0.out ?_
            try simp only [Act.put, lqA, lqB, lqC, lqD, lqE, lqF]
            refine hm_run 6 45 (.slice (some ⟨g, 0, none⟩) n c) rfl rfl (by kernel_rfl) (by kernel_rfl) (by kernel_rfl) (fun _ _ _ h => h) rfl (fun _ _ => rfl) S0.out ?_
            try simp only [Act.put, lqA, lqB, lqC, lqD, lqE, lqF]
            refine hm_run 7 46 (.int .i64 ((first : Nat) : Int)) rfl rfl (by kernel_rfl) (by kernel_rfl) (by kernel_rfl) (fun _ _ _ h => h) rfl (fun _ _ => rfl) S0.out ?_
            try simp only [Act.put, lqA, lqB, lqC, lqD, lqE, lqF]
            refine hm_run 8 47 (.int .i64 ((ch : Nat) : Int)) rfl rfl (by kernel_rfl) (by kernel_rfl) (by kernel_rfl) (fun _ _ _ h => h) rfl (fun _ _ => rfl) S0.out ?_
            try simp only [Act.put, lqA, lqB, lqC, lqD, lqE, lqF]
            refine hm_run 9 48 (.int .i64 ((first + ch : Nat) : Int)) rfl rfl (by kernel_rfl) (by kernel_rfl) (by kernel_rfl) (fun _ _ _ h => h) rfl (fun _ _ => exec_add rfl rfl rfl (by have := BND.out; rw [IntKind.wrap_i64]; omega)) S0.out ?_
            try simp only [Act.put, lqA, lqB, lqC, lqD, lqE, lqF]
            refine hm_run 10 49 (.pointer (some ⟨g, 0 + (first + ch) * 1, none⟩)) rfl rfl (by kernel_rfl) (by kernel_rfl) (by kernel_rfl) (fun _ _ _ h => h) rfl (fun W _ => exec_ix rfl (run_ix (k := 1) (j := first + ch) Tryd.underlying54 (by kernel_rfl) (by have := BND.out; omega) rfl W)) S0.out ?_
            try simp only [Act.put, lqA, lqB, lqC, lqD, lqE, lqF]
            refine hm_run 11 50 (.int .u64 ((d2[first + ch]! : Nat) : Int)) rfl rfl (by kernel_rfl) (by kernel_rfl) (by kernel_rfl) (fun _ _ _ h => h) rfl (fun W hW => exec_load rfl (run_load_one Tryd.underlying59 rfl (cell_dn (Lib.hid hW.1) (by have := BND.out; omega)))) S0.out ?_
            try simp only [Act.put, lqA, lqB, lqC, lqD, lqE, lqF]
            refine hm_one (i := 12) (by kernel_rfl) ?_
            refine hm_step 12 rfl (by kernel_rfl) fun K hK => ?_
            try simp only [Act.put, lqA, lqB, lqC, lqD, lqE, lqF]
            go_simp
            go_at_call 58
            refine (less_any _ _ _).mono ?_
            rintro e w7 ⟨rfl, rfl⟩
            rw [LR.out]
            refine hK _ _ S0.out ?_
            clear hK K
            try simp only [Act.put, lqA, lqB, lqC, lqD, lqE, lqF]
            refine hm_run 13 52 (.bool true) rfl rfl (by kernel_rfl) (by kernel_rfl) (by kernel_rfl) (fun _ _ _ h => h) rfl (fun _ _ => rfl) S0.out ?_
            try simp only [Act.put, lqA, lqB, lqC, lqD, lqE, lqF]
            refine wpAnyH_done (by kernel_rfl) ?_ _
            go_wp2_with fail
            first | go_end0 | refine bodyPost_ret (results_none rfl _ _ _) rfl ?_
            exact ⟨rfl, by rw [← RX.out]; exact N.out, HB.out⟩
      · have L1 := Lib.hid (show decide (((ch + 1 : Nat) : Int) < (hi : Int)) = false from decide_eq_false (by omega))
        clear h1
        go_upto_region 3 with (first | ((with_reducible refine wpList_at 12 rfl ?_); refine wpList_kn rfl (.int .i64 ((2 * r : Nat) : Int)) (by exact exec_mul rfl rfl rfl (by have := BND.out; rw [IntKind.wrap_i64]; omega)) ?_) | ((with_reducible refine wpList_at 13 rfl ?_); refine wpList_kn rfl (.int .i64 (ch : Int)) (by exact exec_add rfl rfl rfl (by have := BND.out; rw [IntKind.wrap_i64]; omega)) ?_) | ((with_reducible refine wpList_at 16 rfl ?_); refine wpList_kn rfl (.bool false) (by exact exec_geqN rfl rfl rfl GE.out) ?_))
        refine wp_region_T (Φ := fun X => (NRow B X g n c d2 ∧ d2.size = n) ∧ Below B w X) (S := fun X => (NRow B X g n c d2 ∧ d2.size = n) ∧ Below B w X) (Lib.hid ⟨N.out, HB.out⟩) (fun X h => ⟨⟨h.1.1.below ((Below.refl _ _).drew), h.1.2⟩, h.2.drew⟩) (fun X h => h) (by kernel_rfl) ?_
        clear N HB
        intro wx TT S0
        have N := Lib.hid TT.out.1
        have HB := Lib.hid TT.out.2
        clear TT
        refine hm_run 0 17 (.int .i64 ((ch : Nat) : Int)) rfl rfl (by kernel_rfl) (by kernel_rfl) (by kernel_rfl) (fun _ _ _ h => h) rfl (fun _ _ => rfl) S0.out ?_
        try simp only [Act.put, lqA, lqB, lqC, lqD, lqE, lqF]
        refine hm_run 1 18 (.int .i64 ((ch + 1 : Nat) : Int)) rfl rfl (by kernel_rfl) (by kernel_rfl) (by kernel_rfl) (fun _ _ _ h => h) rfl (fun _ _ => exec_add rfl rfl rfl (by have := BND.out; rw [IntKind.wrap_i64]; omega)) S0.out ?_
        try simp only [Act.put, lqA, lqB, lqC, lqD, lqE, lqF]
        refine hm_run 2 19 (.int .i64 ((hi : Nat) : Int)) rfl rfl (by kernel_rfl) (by kernel_rfl) (by kernel_rfl) (fun _ _ _ h => h) rfl (fun _ _ => rfl) S0.out ?_
        try simp only [Act.put, lqA, lqB, lqC, lqD, lqE, lqF]
        refine hm_run 3 20 (.bool false) rfl rfl (by kernel_rfl) (by kernel_rfl) (by kernel_rfl) (fun _ _ _ h => h) rfl (fun _ _ => exec_lssi rfl rfl rfl L1.out) S0.out ?_
        try simp only [Act.put, lqA, lqB, lqC, lqD, lqE, lqF]
        refine hm_run 4 21 (.bool false) rfl rfl (by kernel_rfl) (by kernel_rfl) (by kernel_rfl) (fun _ _ _ h => h) rfl (fun _ _ => rfl) S0.out ?_
        try simp only [Act.put, lqA, lqB, lqC, lqD, lqE, lqF]
        refine hm_off 5 22 rfl rfl (by kernel_rfl) (by kernel_rfl) (by kernel_rfl) (fun _ _ _ h => h) rfl S0.out ?_
        try simp only [Act.put, lqA, lqB, lqC, lqD, lqE, lqF]
        refine hm_off 6 23 rfl rfl (by kernel_rfl) (by kernel_rfl) (by kernel_rfl) (fun _ _ _ h => h) rfl S0.out ?_
        try simp only [Act.put, lqA, lqB, lqC, lqD, lqE, lqF]
        refine hm_off 7 24 rfl rfl (by kernel_rfl) (by kernel_rfl) (by kernel_rfl) (fun _ _ _ h => h) rfl S0.out ?_
        try simp only [Act.put, lqA, lqB, lqC, lqD, lqE, lqF]
        refine hm_off 8 25 rfl rfl (by kernel_rfl) (by kernel_rfl) (by kernel_rfl) (fun _ _ _ h => h) rfl S0.out ?_
        try simp only [Act.put, lqA, lqB, lqC, lqD, lqE, lqF]
        refine hm_off 9 26 rfl rfl (by kernel_rfl) (by kernel_rfl) (by kernel_rfl) (fun _ _ _ h => h) rfl S0.out ?_
        try simp only [Act.put, lqA, lqB, lqC, lqD, lqE, lqF]
        refine hm_off 10 27 rfl rfl (by kernel_rfl) (by kernel_rfl) (by kernel_rfl) (fun _ _ _ h => h) rfl S0.out ?_
        try simp only [Act.put, lqA, lqB, lqC, lqD, lqE, lqF]
        refine hm_off 11 28 rfl rfl (by kernel_rfl) (by kernel_rfl) (by kernel_rfl) (fun _ _ _ h => h) rfl S0.out ?_
        try simp only [Act.put, lqA, lqB, lqC, lqD, lqE, lqF]
        refine hm_off 12 29 rfl rfl (by kernel_rfl) (by kernel_rfl) (by kernel_rfl) (fun _ _ _ h => h) rfl S0.out ?_
        try simp only [Act.put, lqA, lqB, lqC, lqD, lqE, lqF]
        refine hm_off 13 30 rfl rfl (by kernel_rfl) (by kernel_rfl) (by kernel_rfl) (fun _ _ _ h => h) rfl S0.out ?_
        try simp only [Act.put, lqA, lqB, lqC, lqD, lqE, lqF]
        refine hm_off 14 31 rfl rfl (by kernel_rfl) (by kernel_rfl) (by kernel_rfl) (fun _ _ _ h => h) rfl S0.out ?_
        try simp only [Act.put, lqA, lqB, lqC, lqD, lqE, lqF]
        refine hm_off 15 32 rfl rfl (by kernel_rfl) (by kernel_rfl) (by kernel_rfl) (fun _ _ _ h => h) rfl S0.out ?_
        try simp only [Act.put, lqA, lqB, lqC, lqD, lqE, lqF]
        refine hm_off 16 33 rfl rfl (by kernel_rfl) (by kernel_rfl) (by kernel_rfl) (fun _ _ _ h => h) rfl S0.out ?_
        try simp only [Act.put, lqA, lqB, lqC, lqD, lqE, lqF]
        refine hm_off 17 34 rfl rfl (by kernel_rfl) (by kernel_rfl) (by kernel_rfl) (fun _ _ _ h => h) rfl S0.out ?_
        try simp only [Act.put, lqA, lqB, lqC, lqD, lqE, lqF]
        refine hm_off 18 35 rfl rfl (by kernel_rfl) (by kernel_rfl) (by kernel_rfl) (fun _ _ _ h => h) rfl S0.out ?_
        try simp only [Act.put, lqA, lqB, lqC, lqD, lqE, lqF]
        refine hm_run 19 36 (.bool false) rfl rfl (by kernel_rfl) (by kernel_rfl) (by kernel_rfl) (fun _ _ _ h => h) rfl (fun _ _ => rfl) S0.out ?_
        try simp only [Act.put, lqA, lqB, lqC, lqD, lqE, lqF]
        refine wpAnyH_done (by kernel_rfl) ?_ _
        by_cases hr : d2[first + r]! < d2[first + ch]!
        · have LR := Lib.hid (decide_eq_true hr)
          have INX := Lib.hid (show Go.Sort.siftDown ltN hi first ch (Go.Sort.swp d2 (first + r) (first + ch)) = R by
            have h := IN.out
            rw [sift_eq _ _ _ _ _ HCH.out, if_neg (by have := BND.out; omega), if_neg (fun hh => of_decide_eq_false L1.out (by omega))] at h
            skip
            rw [if_neg (fun hh => hh hr)] at h
            exact h)
          clear IN hr
          go_upto_region 5 with fail
          refine wp_region_T (Φ := fun X => (NRow B X g n c d2 ∧ d2.size = n) ∧ Below B w X) (S := fun X => (NRow B X g n c d2 ∧ d2.size = n) ∧ Below B w X) (Lib.hid ⟨N.out, HB.out⟩) (fun X h => ⟨⟨h.1.1.below ((Below.refl _ _).drew), h.1.2⟩, h.2.drew⟩) (fun X h => h) (by kernel_rfl) ?_
          clear N HB
          intro wx TT S0
          have N := Lib.hid TT.out.1
          have HB := Lib.hid TT.out.2
          clear TT
          refine hm_run 0 39 (.slice (some ⟨g, 0, none⟩) n c) rfl rfl (by kernel_rfl) (by kernel_rfl) (by kernel_rfl) (fun _ _ _ h => h) rfl (fun _ _ => rfl) S0.out ?_
          try simp only [Act.put, lqA, lqB, lqC, lqD, lqE, lqF]
          refine hm_run 1 40 (.int .i64 ((first : Nat) : Int)) rfl rfl (by kernel_rfl) (by kernel_rfl) (by kernel_rfl) (fun _ _ _ h => h) rfl (fun _ _ => rfl) S0.out ?_
          try simp only [Act.put, lqA, lqB, lqC, lqD, lqE, lqF]
          refine hm_run 2 41 (.int .i64 ((r : Nat) : Int)) rfl rfl (by kernel_rfl) (by kernel_rfl) (by kernel_rfl) (fun _ _ _ h => h) rfl (fun _ _ => rfl) S0.out ?_
          try simp only [Act.put, lqA, lqB, lqC, lqD, lqE, lqF]
          refine hm_run 3 42 (.int .i64 ((first + r : Nat) : Int)) rfl rfl (by kernel_rfl) (by kernel_rfl) (by kernel_rfl) (fun _ _ _ h => h) rfl (fun _ _ => exec_add rfl rfl rfl (by have := BND.out; rw [IntKind.wrap_i64]; omega)) S0.out ?_
          try simp only [Act.put, lqA, lqB, lqC, lqD, lqE, lqF]
          refine hm_run 4 43 (.pointer (some ⟨g, 0 + (first + r) * 1, none⟩)) rfl rfl (by kernel_rfl) (by kernel_rfl) (by kernel_rfl) (fun _ _ _ h => h) rfl (fun W _ => exec_ix rfl (run_ix (k := 1) (j := first + r) Tryd.underlying54 (by kernel_rfl) (by have := BND.out; omega) rfl W)) S0.out ?_
          try simp only [Act.put, lqA, lqB, lqC, lqD, lqE, lqF]
          refine hm_run 5 44 (.int .u64 ((d2[first + r]! : Nat) : Int)) rfl rfl (by kernel_rfl) (by kernel_rfl) (by kernel_rfl) (fun _ _ _ h => h) rfl (fun W hW => exec_load rfl (run_load_one Tryd.underlying59 rfl (cell_dn (Lib.hid hW.1) (by have := BND.out; omega)))) S0.out ?_
          try simp only [Act.put, lqA, lqB, lqC, lqD, lqE, lqF]
          refine hm_run 6 45 (.slice (some ⟨g, 0, none⟩) n c) rfl rfl (by kernel_rfl) (by kernel_rfl) (by kernel_rfl) (fun _ _ _ h => h) rfl (fun _ _ => rfl) S0.out ?_
          try simp only [Act.put, lqA, lqB, lqC, lqD, lqE, lqF]
          refine hm_run 7 46 (.int .i64 ((first : Nat) : Int)) rfl rfl (by kernel_rfl) (by kernel_rfl) (by kernel_rfl) (fun _ _ _ h => h) rfl (fun _ _ => rfl) S0.out ?_
          try simp only [Act.put, lqA, lqB, lqC, lqD, lqE, lqF]
          refine hm_run 8 47 (.int .i64 ((ch : Nat) : Int)) rfl rfl (by kernel_rfl) (by kernel_rfl) (by kernel_rfl) (fun _ _ _ h => h) rfl (fun _ _ => rfl) S0.out ?_
          try simp only [Act.put, lqA, lqB, lqC, lqD, lqE, lqF]
          refine hm_run 9 48 (.int .i64 ((first + ch : Nat) : Int)) rfl rfl (by kernel_rfl) (by kernel_rfl) (by kernel_rfl) (fun _ _ _ h => h) rfl (fun _ _ => exec_add rfl rfl rfl (by have := BND.out; rw [IntKind.wrap_i64]; omega)) S0.out ?_
          try simp only [Act.put, lqA, lqB, lqC, lqD, lqE, lqF]
          refine hm_run 10 49 (.pointer (some ⟨g, 0 + (first + ch) * 1, none⟩)) rfl rfl (by kernel_rfl) (by kernel_rfl) (by kernel_rfl) (fun _ _ _ h => h) rfl (fun W _ => exec_ix rfl (run_ix (k := 1) (j := first + ch) Tryd.underlying54 (by kernel_rfl) (by have := BND.out; omega) rfl W)) S0.out ?_
          try simp only [Act.put, lqA, lqB, lqC, lqD, lqE, lqF]
          refine hm_run 11 50 (.int .u64 ((d2[first + ch]! : Nat) : Int)) rfl rfl (by kernel_rfl) (by kernel_rfl) (by kernel_rfl) (fun _ _ _ h => h) rfl (fun W hW => exec_load rfl (run_load_one Tryd.underlying59 rfl (cell_dn (Lib.hid hW.1) (by have := BND.out; omega)))) S0.out ?_
          try simp only [Act.put, lqA, lqB, lqC, lqD, lqE, lqF]
          refine hm_one (i := 12) (by kernel_rfl) ?_
          refine hm_step 12 rfl (by kernel_rfl) fun K hK => ?_
          try simp only [Act.put, lqA, lqB, lqC, lqD, lqE, lqF]
          go_simp
          go_at_call 58
          refine (less_any _ _ _).mono ?_
          rintro e w7 ⟨rfl, rfl⟩
          rw [LR.out]
          refine hK _ _ S0.out ?_
          clear hK K
          try simp only [Act.put, lqA, lqB, lqC, lqD, lqE, lqF]
          refine hm_run 13 52 (.bool false) rfl rfl (by kernel_rfl) (by kernel_rfl) (by kernel_rfl) (fun _ _ _ h => h) rfl (fun _ _ => rfl) S0.out ?_
          try simp only [Act.put, lqA, lqB, lqC, lqD, lqE, lqF]
          refine wpAnyH_done (by kernel_rfl) ?_ _
          go_upto_region 6 with fail
          refine wp_region_T (Φ := fun X => (NRow B X g n c d2 ∧ d2.size = n) ∧ Below B w X) (S := fun _ => True) (Lib.hid ⟨N.out, HB.out⟩) (fun X h => ⟨⟨h.1.1.below ((Below.refl _ _).drew), h.1.2⟩, h.2.drew⟩) (fun _ _ => trivial) (by kernel_rfl) ?_
          clear N HB
          intro wx TT S0
          have N := Lib.hid TT.out.1
          have HB := Lib.hid TT.out.2
          clear TT
          refine hm_run 0 53 (.slice (some ⟨g, 0, none⟩) n c) rfl rfl (by kernel_rfl) (by kernel_rfl) (by kernel_rfl) (fun _ _ _ h => h) rfl (fun _ _ => rfl) trivial ?_
          try simp only [Act.put, lqA, lqB, lqC, lqD, lqE, lqF]
          refine hm_run 1 54 (.int .i64 ((first : Nat) : Int)) rfl rfl (by kernel_rfl) (by kernel_rfl) (by kernel_rfl) (fun _ _ _ h => h) rfl (fun _ _ => rfl) trivial ?_
          try simp only [Act.put, lqA, lqB, lqC, lqD, lqE, lqF]
          refine hm_run 2 55 (.int .i64 ((r : Nat) : Int)) rfl rfl (by kernel_rfl) (by kernel_rfl) (by kernel_rfl) (fun _ _ _ h => h) rfl (fun _ _ => rfl) trivial ?_
          try simp only [Act.put, lqA, lqB, lqC, lqD, lqE, lqF]
          refine hm_run 3 56 (.int .i64 ((first + r : Nat) : Int)) rfl rfl (by kernel_rfl) (by kernel_rfl) (by kernel_rfl) (fun _ _ _ h => h) rfl (fun _ _ => exec_add rfl rfl rfl (by have := BND.out; rw [IntKind.wrap_i64]; omega)) trivial ?_
          try simp only [Act.put, lqA, lqB, lqC, lqD, lqE, lqF]
          refine hm_run 4 57 (.slice (some ⟨g, 0, none⟩) n c) rfl rfl (by kernel_rfl) (by kernel_rfl) (by kernel_rfl) (fun _ _ _ h => h) rfl (fun _ _ => rfl) trivial ?_
          try simp only [Act.put, lqA, lqB, lqC, lqD, lqE, lqF]
          refine hm_run 5 58 (.int .i64 ((first : Nat) : Int)) rfl rfl (by kernel_rfl) (by kernel_rfl) (by kernel_rfl) (fun _ _ _ h => h) rfl (fun _ _ => rfl) trivial ?_
          try simp only [Act.put, lqA, lqB, lqC, lqD, lqE, lqF]
          refine hm_run 6 59 (.int .i64 ((ch : Nat) : Int)) rfl rfl (by kernel_rfl) (by kernel_rfl) (by kernel_rfl) (fun _ _ _ h => h) rfl (fun _ _ => rfl) trivial ?_
          try simp only [Act.put, lqA, lqB, lqC, lqD, lqE, lqF]
          refine hm_run 7 60 (.int .i64 ((first + ch : Nat) : Int)) rfl rfl (by kernel_rfl) (by kernel_rfl) (by kernel_rfl) (fun _ _ _ h => h) rfl (fun _ _ => exec_add rfl rfl rfl (by have := BND.out; rw [IntKind.wrap_i64]; omega)) trivial ?_
          try simp only [Act.put, lqA, lqB, lqC, lqD, lqE, lqF]
          refine hm_run 8 61 (.slice (some ⟨g, 0, none⟩) n c) rfl rfl (by kernel_rfl) (by kernel_rfl) (by kernel_rfl) (fun _ _ _ h => h) rfl (fun _ _ => rfl) trivial ?_
          try simp only [Act.put, lqA, lqB, lqC, lqD, lqE, lqF]
          refine hm_run 9 62 (.int .i64 ((first : Nat) : Int)) rfl rfl (by kernel_rfl) (by kernel_rfl) (by kernel_rfl) (fun _ _ _ h => h) rfl (fun _ _ => rfl) trivial ?_
          try simp only [Act.put, lqA, lqB, lqC, lqD, lqE, lqF]
          refine hm_run 10 63 (.int .i64 ((ch : Nat) : Int)) rfl rfl (by kernel_rfl) (by kernel_rfl) (by kernel_rfl) (fun _ _ _ h => h) rfl (fun _ _ => rfl) trivial ?_
          try simp only [Act.put, lqA, lqB, lqC, lqD, lqE, lqF]
          refine hm_run 11 64 (.int .i64 ((first + ch : Nat) : Int)) rfl rfl (by kernel_rfl) (by kernel_rfl) (by kernel_rfl) (fun _ _ _ h => h) rfl (fun _ _ => exec_add rfl rfl rfl (by have := BND.out; rw [IntKind.wrap_i64]; omega)) trivial ?_
          try simp only [Act.put, lqA, lqB, lqC, lqD, lqE, lqF]
          refine hm_run 12 65 (.pointer (some ⟨g, 0 + (first + ch) * 1, none⟩)) rfl rfl (by kernel_rfl) (by kernel_rfl) (by kernel_rfl) (fun _ _ _ h => h) rfl (fun W _ => exec_ix rfl (run_ix (k := 1) (j := first + ch) Tryd.underlying54 (by kernel_rfl) (by have := BND.out; omega) rfl W)) trivial ?_
          try simp only [Act.put, lqA, lqB, lqC, lqD, lqE, lqF]
          refine hm_run 14 67 (.slice (some ⟨g, 0, none⟩) n c) rfl rfl (by kernel_rfl) (by kernel_rfl) (by kernel_rfl) (fun _ _ _ h => h) rfl (fun _ _ => rfl) trivial ?_
          try simp only [Act.put, lqA, lqB, lqC, lqD, lqE, lqF]
          refine hm_run 15 68 (.int .i64 ((first : Nat) : Int)) rfl rfl (by kernel_rfl) (by kernel_rfl) (by kernel_rfl) (fun _ _ _ h => h) rfl (fun _ _ => rfl) trivial ?_
          try simp only [Act.put, lqA, lqB, lqC, lqD, lqE, lqF]
          refine hm_run 16 69 (.int .i64 ((r : Nat) : Int)) rfl rfl (by kernel_rfl) (by kernel_rfl) (by kernel_rfl) (fun _ _ _ h => h) rfl (fun _ _ => rfl) trivial ?_
          try simp only [Act.put, lqA, lqB, lqC, lqD, lqE, lqF]
          refine hm_run 17 70 (.int .i64 ((first + r : Nat) : Int)) rfl rfl (by kernel_rfl) (by kernel_rfl) (by kernel_rfl) (fun _ _ _ h => h) rfl (fun _ _ => exec_add rfl rfl rfl (by have := BND.out; rw [IntKind.wrap_i64]; omega)) trivial ?_
          try simp only [Act.put, lqA, lqB, lqC, lqD, lqE, lqF]
          refine hm_run 18 71 (.pointer (some ⟨g, 0 + (first + r) * 1, none⟩)) rfl rfl (by kernel_rfl) (by kernel_rfl) (by kernel_rfl) (fun _ _ _ h => h) rfl (fun W _ => exec_ix rfl (run_ix (k := 1) (j := first + r) Tryd.underlying54 (by kernel_rfl) (by have := BND.out; omega) rfl W)) trivial ?_
          try simp only [Act.put, lqA, lqB, lqC, lqD, lqE, lqF]
          refine hm_two (i := 13) (j := 19) (by kernel_rfl) ?_ ?_
          · refine hm_step 13 rfl (by kernel_rfl) fun K hK => ?_
            try simp only [Act.put, lqA, lqB, lqC, lqD, lqE, lqF]
            refine mo_known (.int .u64 ((d2[first + ch]! : Nat) : Int)) _ (exec_load rfl (run_load_one Tryd.underlying59 rfl (cell_dn N (by have := BND.out; omega)))) ?_
            refine hK _ _ trivial ?_
            clear hK K
            try simp only [Act.put, lqA, lqB, lqC, lqD, lqE, lqF]
            refine hm_one (i := 19) (by kernel_rfl) ?_
            refine hm_step 19 rfl (by kernel_rfl) fun K hK => ?_
            try simp only [Act.put, lqA, lqB, lqC, lqD, lqE, lqF]
            refine mo_known (.int .u64 ((d2[first + r]! : Nat) : Int)) _ (exec_load rfl (run_load_one Tryd.underlying59 rfl (cell_dn N (by have := BND.out; omega)))) ?_
            refine hK _ _ trivial ?_
            clear hK K
            try simp only [Act.put, lqA, lqB, lqC, lqD, lqE, lqF]
            refine hm_run 20 73 (.pointer (some ⟨g, 0 + (first + r) * 1, none⟩)) rfl rfl (by kernel_rfl) (by kernel_rfl) (by kernel_rfl) (fun _ _ _ h => h) rfl (fun W _ => exec_ix rfl (run_ix (k := 1) (j := first + r) Tryd.underlying54 (by kernel_rfl) (by have := BND.out; omega) rfl W)) trivial ?_
            try simp only [Act.put, lqA, lqB, lqC, lqD, lqE, lqF]
            refine hm_one (i := 21) (by kernel_rfl) ?_
            refine hm_step 21 rfl (by kernel_rfl) fun K hK => ?_
            try simp only [Act.put, lqA, lqB, lqC, lqD, lqE, lqF]
            refine mo_vput (i := first + r) (v := d2[first + ch]!) (.tmp 73) (.tmp 66) rfl N rfl rfl (by have := BND.out; omega) ?_
            clear N
            intro w9 N hb9
            replace HB := Lib.hid (HB.out.trans hb9.out)
            clear hb9
            refine hK _ _ trivial ?_
            clear hK K
            try simp only [Act.put, lqA, lqB, lqC, lqD, lqE, lqF]
            refine hm_run 22 74 (.pointer (some ⟨g, 0 + (first + ch) * 1, none⟩)) rfl rfl (by kernel_rfl) (by kernel_rfl) (by kernel_rfl) (fun _ _ _ h => h) rfl (fun W _ => exec_ix rfl (run_ix (k := 1) (j := first + ch) Tryd.underlying54 (by kernel_rfl) (by have := BND.out; omega) rfl W)) trivial ?_
            try simp only [Act.put, lqA, lqB, lqC, lqD, lqE, lqF]
            refine hm_one (i := 23) (by kernel_rfl) ?_
            refine hm_step 23 rfl (by kernel_rfl) fun K hK => ?_
            try simp only [Act.put, lqA, lqB, lqC, lqD, lqE, lqF]
            refine mo_vput (i := first + ch) (v := d2[first + r]!) (.tmp 74) (.tmp 72) rfl N rfl rfl (by have := BND.out; omega) ?_
            clear N
            intro w9 N hb9
            replace HB := Lib.hid (HB.out.trans hb9.out)
            clear hb9
            refine hK _ _ trivial ?_
            clear hK K
            try simp only [Act.put, lqA, lqB, lqC, lqD, lqE, lqF]
            refine wpAnyH_done (by kernel_rfl) ?_ _
            go_wp2_with fail
            go_roundg (hi - ch)
            case measure => have := BND.out; omega
            case rel => exact ⟨ch, ((d2.setIfInBounds (first + r) d2[first + ch]!).setIfInBounds (first + ch) d2[first + r]!), by have := BND.out; omega, rfl, N, INX, HB⟩
          · refine hm_step 19 rfl (by kernel_rfl) fun K hK => ?_
            try simp only [Act.put, lqA, lqB, lqC, lqD, lqE, lqF]
            refine mo_known (.int .u64 ((d2[first + r]! : Nat) : Int)) _ (exec_load rfl (run_load_one Tryd.underlying59 rfl (cell_dn N (by have := BND.out; omega)))) ?_
            refine hK _ _ trivial ?_
            clear hK K
            try simp only [Act.put, lqA, lqB, lqC, lqD, lqE, lqF]
            refine hm_one (i := 13) (by kernel_rfl) ?_
            refine hm_step 13 rfl (by kernel_rfl) fun K hK => ?_
            try simp only [Act.put, lqA, lqB, lqC, lqD, lqE, lqF]
            refine mo_known (.int .u64 ((d2[first + ch]! : Nat) : Int)) _ (exec_load rfl (run_load_one Tryd.underlying59 rfl (cell_dn N (by have := BND.out; omega)))) ?_
            refine hK _ _ trivial ?_
            clear hK K
            try simp only [Act.put, lqA, lqB, lqC, lqD, lqE, lqF]
            refine hm_run 20 73 (.pointer (some ⟨g, 0 + (first + r) * 1, none⟩)) rfl rfl (by kernel_rfl) (by kernel_rfl) (by kernel_rfl) (fun _ _ _ h => h) rfl (fun W _ => exec_ix rfl (run_ix (k := 1) (j := first + r) Tryd.underlying54 (by kernel_rfl) (by have := BND.out; omega) rfl W)) trivial ?_
            try simp only [Act.put, lqA, lqB, lqC, lqD, lqE, lqF]
            refine hm_one (i := 21) (by kernel_rfl) ?_
            refine hm_step 21 rfl (by kernel_rfl) fun K hK => ?_
            try simp only [Act.put, lqA, lqB, lqC, lqD, lqE, lqF]
            refine mo_vput (i := first + r) (v := d2[first + ch]!) (.tmp 73) (.tmp 66) rfl N rfl rfl (by have := BND.out; omega) ?_
            clear N
            intro w9 N hb9
            replace HB := Lib.hid (HB.out.trans hb9.out)
            clear hb9
            refine hK _ _ trivial ?_
            clear hK K
            try simp only [Act.put, lqA, lqB, lqC, lqD, lqE, lqF]
            refine hm_run 22 74 (.pointer (some ⟨g, 0 + (first + ch) * 1, none⟩)) rfl rfl (by kernel_rfl) (by kernel_rfl) (by kernel_rfl) (fun _ _ _ h => h) rfl (fun W _ => exec_ix rfl (run_ix (k := 1) (j := first + ch) Tryd.underlying54 (by kernel_rfl) (by have := BND.out; omega) rfl W)) trivial ?_
            try simp only [Act.put, lqA, lqB, lqC, lqD, lqE, lqF]
            refine hm_one (i := 23) (by kernel_rfl) ?_
            refine hm_step 23 rfl (by kernel_rfl) fun K hK => ?_
            try simp only [Act.put, lqA, lqB, lqC, lqD, lqE, lqF]
            refine mo_vput (i := first + ch) (v := d2[first + r]!) (.tmp 74) (.tmp 72) rfl N rfl rfl (by have := BND.out; omega) ?_
            clear N
            intro w9 N hb9
            replace HB := Lib.hid (HB.out.trans hb9.out)
            clear hb9
            refine hK _ _ trivial ?_
            clear hK K
            try simp only [Act.put, lqA, lqB, lqC, lqD, lqE, lqF]
            refine wpAnyH_done (by kernel_rfl) ?_ _
            go_wp2_with fail
            go_roundg (hi - ch)
            case measure => have := BND.out; omega
            case rel => exact ⟨ch, ((d2.setIfInBounds (first + r) d2[first + ch]!).setIfInBounds (first + ch) d2[first + r]!), by have := BND.out; omega, rfl, N, INX, HB⟩
        · have LR := Lib.hid (decide_eq_false hr)
          have RX := Lib.hid (show d2 = R by
            have h := IN.out
            rw [sift_eq _ _ _ _ _ HCH.out, if_neg (by have := BND.out; omega), if_neg (fun hh => of_decide_eq_false L1.out (by omega))] at h
            skip
            rw [if_pos hr] at h
            exact h)
          clear IN hr
          go_upto_region 5 with fail
          refine wp_region_T (Φ := fun X => (NRow B X g n c d2 ∧ d2.size = n) ∧ Below B w X) (S := fun X => (NRow B X g n c d2 ∧ d2.size = n) ∧ Below B w X) (Lib.hid ⟨N.out, HB.out⟩) (fun X h => ⟨⟨h.1.1.below ((Below.refl _ _).drew), h.1.2⟩, h.2.drew⟩) (fun X h => h) (by kernel_rfl) ?_
          clear N HB
          intro wx TT S0
          have N := Lib.hid TT.out.1
          have HB := Lib.hid TT.out.2
          clear TT
          refine hm_run 0 39 (.slice (some ⟨g, 0, none⟩) n c) rfl rfl (by kernel_rfl) (by kernel_rfl) (by kernel_rfl) (fun _ _ _ h => h) rfl (fun _ _ => rfl) S0.out ?_
          try simp only [Act.put, lqA, lqB, lqC, lqD, lqE, lqF]
          refine hm_run 1 40 (.int .i64 ((first : Nat) : Int)) rfl rfl (by kernel_rfl) (by kernel_rfl) (by kernel_rfl) (fun _ _ _ h => h) rfl (fun _ _ => rfl) S0.out ?_
          try simp only [Act.put, lqA, lqB, lqC, lqD, lqE, lqF]
          refine hm_run 2 41 (.int .i64 ((r : Nat) : Int)) rfl rfl (by kernel_rfl) (by kernel_rfl) (by kernel_rfl) (fun _ _ _ h => h) rfl (fun _ _ => rfl) S0.out ?_
          try simp only [Act.put, lqA, lqB, lqC, lqD, lqE, lqF]
          refine hm_run 3 42 (.int .i64 ((first + r : Nat) : Int)) rfl rfl (by kernel_rfl) (by kernel_rfl) (by kernel_rfl) (fun _ _ _ h => h) rfl (fun _ _ => exec_add rfl rfl rfl (by have := BND.out; rw [IntKind.wrap_i64]; omega)) S0.out ?_
          try simp only [Act.put, lqA, lqB, lqC, lqD, lqE, lqF]
          refine hm_run 4 43 (.pointer (some ⟨g, 0 + (first + r) * 1, none⟩)) rfl rfl (by kernel_rfl) (by kernel_rfl) (by kernel_rfl) (fun _ _ _ h => h) rfl (fun W _ => exec_ix rfl (run_ix (k := 1) (j := first + r) Tryd.underlying54 (by kernel_rfl) (by have := BND.out; omega) rfl W)) S0.out ?_
          try simp only [Act.put, lqA, lqB, lqC, lqD, lqE, lqF]
          refine hm_run 5 44 (.int .u64 ((d2[first + r]! : Nat) : Int)) rfl rfl (by kernel_rfl) (by kernel_rfl) (by kernel_rfl) (fun _ _ _ h => h) rfl (fun W hW => exec_load rfl (run_load_one Tryd.underlying59 rfl (cell_dn (Lib.hid hW.1) (by have := BND.out; omega)))) S0.out ?_
          try simp only [Act.put, lqA, lqB, lqC, lqD, lqE, lqF]
          refine hm_run 6 45 (.slice (some ⟨g, 0, none⟩) n c) rfl rfl (by kernel_rfl) (by kernel_rfl) (by kernel_rfl) (fun _ _ _ h => h) rfl (fun _ _ => rfl) S0.out ?_
          try simp only [Act.put, lqA, lqB, lqC, lqD, lqE, lqF]
          refine hm_run 7 46 (.int .i64 ((first : Nat) : Int)) rfl rfl (by kernel_rfl) (by kernel_rfl) (by kernel_rfl) (fun _ _ _ h => h) rfl (fun _ _ => rfl) S0.out ?_
          try simp only [Act.put, lqA, lqB, lqC, lqD, lqE, lqF]
          refine hm_run 8 47 (.int .i64 ((ch : Nat) : Int)) rfl rfl (by kernel_rfl) (by kernel_rfl) (by kernel_rfl) (fun _ _ _ h => h) rfl (fun _ _ => rfl) S0.out ?_
          try simp only [Act.put, lqA, lqB, lqC, lqD, lqE, lqF]
          refine hm_run 9 48 (.int .i64 ((first + ch : Nat) : Int)) rfl rfl (by kernel_rfl) (by kernel_rfl) (by kernel_rfl) (fun _ _ _ h => h) rfl (fun _ _ => exec_add rfl rfl rfl (by have := BND.out; rw [IntKind.wrap_i64]; omega)) S0.out ?_
          try simp only [Act.put, lqA, lqB, lqC, lqD, lqE, lqF]
          refine hm_run 10 49 (.pointer (some ⟨g, 0 + (first + ch) * 1, none⟩)) rfl rfl (by kernel_rfl) (by kernel_rfl) (by kernel_rfl) (fun _ _ _ h => h) rfl (fun W _ => exec_ix rfl (run_ix (k := 1) (j := first + ch) Tryd.underlying54 (by kernel_rfl) (by have := BND.out; omega) rfl W)) S0.out ?_
          try simp only [Act.put, lqA, lqB, lqC, lqD, lqE, lqF]
          refine hm_run 11 50 (.int .u64 ((d2[first + ch]! : Nat) : Int)) rfl rfl (by kernel_rfl) (by kernel_rfl) (by kernel_rfl) (fun _ _ _ h => h) rfl (fun W hW => exec_load rfl (run_load_one Tryd.underlying59 rfl (cell_dn (Lib.hid hW.1) (by have := BND.out; omega)))) S0.out ?_
          try simp only [Act.put, lqA, lqB, lqC, lqD, lqE, lqF]
          refine hm_one (i := 12) (by kernel_rfl) ?_
          refine hm_step 12 rfl (by kernel_rfl) fun K hK => ?_
          try simp only [Act.put, lqA, lqB, lqC, lqD, lqE, lqF]
          go_simp
          go_at_call 58
          refine (less_any _ _ _).mono ?_
          rintro e w7 ⟨rfl, rfl⟩
          rw [LR.out]
          refine hK _ _ S0.out ?_
          clear hK K
          try simp only [Act.put, lqA, lqB, lqC, lqD, lqE, lqF]
          refine hm_run 13 52 (.bool true) rfl rfl (by kernel_rfl) (by kernel_rfl) (by kernel_rfl) (fun _ _ _ h => h) rfl (fun _ _ => rfl) S0.out ?_
          try simp only [Act.put, lqA, lqB, lqC, lqD, lqE, lqF]
          refine wpAnyH_done (by kernel_rfl) ?_ _
          go_wp2_with fail
          first | go_end0 | refine bodyPost_ret (results_none rfl _ _ _) rfl ?_
          exact ⟨rfl, by rw [← RX.out]; exact N.out, HB.out⟩
end Go.Proofs.YtoopcmcmjaikhaaDoor
