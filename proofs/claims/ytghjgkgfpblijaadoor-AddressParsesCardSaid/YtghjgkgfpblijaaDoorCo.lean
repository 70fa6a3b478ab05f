/- slices.Grow of nothing, slices.Concat of some slices of bytes. -/
import Derived.Test.YtghjgkgfpblijaaDoorZA
import Derived.Lib.AppendZeros
set_option linter.unusedSimpArgs false
set_option maxRecDepth 100000
namespace Go.Proofs.YtghjgkgfpblijaaDoor
open Go.RowKit Go.Lib

/-- slices.Grow of nothing. -/
theorem grow_any {w : World} (n : Nat) (hn : n ≤ 140737488355328) : Calls Tryd.prog 54 #[.slice none 0 0, .int .i64 ((n : Nat) : Int)] w fun e w' => ∃ p g c, e = .returned (.slice p 0 c) ∧ Own w.heap.size w' p g 0 c (lf []) ∧ Below w.heap.size w w' := by
  obtain ⟨i0, hi, hz0, hz1, hz2⟩ := info_parts infoB
  rcases Nat.eq_zero_or_pos n with h0 | h0
  · subst h0
    go_enter Tryd.func54, Tryd.ntmps54
    go_wp2
    go_ret
    exact ⟨none, 0, 0, rfl, own_nothing _ _ _ (lf_lt isB_nil) (Nat.le_refl _), Below.refl _ _⟩
  · have h1 : (0 : Int) < (n : Int) := by omega
    have hng : ¬ ((n : Int) < 0) := by omega
    have hng2 : decide ((n : Int) < 0) = false := by simp
    have gc0 := fun w : World => grownCap_ge w n 0 5
    have gc1 := fun w : World => grownCap_le_maxLen w n 0 5 (by unfold maxLen; omega)
    have RZ := Lib.hid fun w : World => Lib.run_append_nil_zeros (P := Tryd.prog) w 22 3 22 5 i0 _ .i64 .i64 Tryd.underlying22 Tryd.underlying3 hi hz0 n h0 (by omega) (by omega) (by rw [hz2]; omega)
    clear gc0 gc1 hi hz0 hz1 hz2
    go_enter Tryd.func54, Tryd.ntmps54
    go_wp2_with (at_builtin; refine Lib.wpList_append_run _ rfl (.tmp 20) (.tmp 21) 22 3 rfl _ _ rfl rfl _ _ (RZ.out _) ?_)
    go_ret
    refine ⟨_, w.heap.size, _, rfl, ?_, (below_new w _).trans ⟨rfl, rfl, rfl, Nat.le_refl _, fun _ _ => rfl⟩⟩
    have h := World.ownsRow_made (base := w.heap.size) (e := 5) (size := 1) w (Builtin.zeroCells #[Value.int IntKind.u8 0] n ++ Builtin.zeroCells #[Value.int IntKind.u8 0] (grownCap w n 0 5 - n)) (grownCap w n 0 5) (Nat.le_refl _) (grownCap_le_maxLen w n 0 5 (by unfold maxLen; omega)) (by
      have := grownCap_ge w n 0 5
      simp only [Array.size_append, size_zeroCells]
      simp
      omega)
    exact ⟨h, .inr rfl, lf_lt isB_nil, by simp⟩

set_option maxHeartbeats 2000000 in
theorem concat_any {w : World} {v : Value} {ts : List (List Nat)} (R : Hid (TextsAt w v ts)) (hs : sm ts ts.length ≤ 140737488355328) : Calls Tryd.prog 34 #[v] w (GetsL w ts.flatten) := by
  obtain ⟨p, g, o, c, V, hv, hc, R0, hi⟩ := R.out
  subst hv
  have RR := Lib.hid R0
  have TT := Lib.hid hi
  have cn : ts.length ≤ c := R0.le
  clear R0 hi R
  obtain ⟨n, hn⟩ : ∃ n, n = ts.length := ⟨_, rfl⟩
  have HN := Lib.hid hn
  rw [← hn] at RR cn hc ⊢
  have HS : Hid (∀ j, j ≤ n → sm ts j ≤ 140737488355328) := Lib.hid fun j hj => by
    rw [hn] at hj
    exact Nat.le_trans (sm_le ts hj) hs
  have hn3 : n ≤ 140737488355328 := by omega
  clear hn hs hc cn
  go_enter Tryd.func34, Tryd.ntmps34
  go_wp2
  go_loopg [3, 11] n (fun k s i wr => ∃ j : Nat, j + k = n ∧ i = .int .i64 (j : Int) ∧ s = .int .i64 ((sm ts j : Nat) : Int) ∧ Hid (Below w.heap.size w wr))
  case atStart => exact ⟨0, by omega, rfl, rfl, Lib.hid (Below.refl _ _)⟩
  case round =>
    obtain ⟨j, hj, rfl, rfl, B⟩ := hrel
    obtain ⟨kk, rfl⟩ : ∃ kk : Nat, kk = gk := ⟨_, rfl⟩
    by_cases hlt : j < n
    · obtain rfl := RR.out.head (by omega)
      have ht : j < ts.length := by rw [← HN.out]; exact hlt
      obtain ⟨p1, g1, o1, c1, hv1, hc1, R1⟩ := TT.out j ht
      have cell := (RR.out.below B.out).cell j (by omega)
      rw [hv1] at cell
      have CC := Lib.hid cell
      have e1 := HS.out (j + 1) (by omega)
      have e2 := sm_succ ts ht
      obtain ⟨m, hm⟩ : ∃ m, m = ts[j].length := ⟨_, rfl⟩
      rw [← hm] at CC e2
      obtain ⟨s0, hs0⟩ : ∃ s0, s0 = sm ts j := ⟨_, rfl⟩
      rw [← hs0] at e2 ⊢
      rw [e2] at e1
      have E2 := Lib.hid e2
      clear e2 cell hv1 hc1 R1 hm hs0
      go_wp2_with (first
        | (refine wpList_ix (k := 1) (j := j) Tryd.underlying70 (by kernel_rfl) (.tmp 9) (.tmp 11) rfl rfl rfl rfl hlt rfl ?_; rw [Nat.mul_one])
        | (refine wpList_ld1 22 (.tmp 13) rfl rfl rfl Tryd.underlying22 rfl CC.out ?_))
      go_roundg (n - (j + 1))
      case measure => omega
      case rel => exact ⟨j + 1, by omega, by go_num, by rw [E2.out]; go_num, B⟩
    · obtain rfl : j = n := by omega
      have e0 := sm_le ts (Nat.le_of_eq HN.out)
      have HT : Hid (sm ts j ≤ 140737488355328) := Lib.hid (HS.out j (Nat.le_refl _))
      obtain ⟨tot, htot⟩ : ∃ tot, tot = sm ts j := ⟨_, rfl⟩
      have HTT := Lib.hid htot
      rw [← htot] at HT ⊢
      have ht3 := HT.out
      clear htot e0
      go_wp2_with (go_at_call 54; refine (grow_any tot HT.out).mono ?_; rintro e w1 ⟨p1, g1, c1, rfl, N1, hb⟩; have K : Hid (Wb w [] p1 g1 c1 [] w1) := Lib.hid ⟨(Mem.nil w).call (B.out.trans (hb.mono B.out.size)), N1.mono B.out.size, fun _ h => by cases h⟩; clear hb N1 B)
      go_loopg [6, 27] j (fun k s i wr => ∃ (j1 : Nat) (p : Option Addr) (g c : Nat) (xs : List Nat), j1 + k = j ∧ i = .int .i64 (j1 : Int) ∧ s = .slice p xs.length c ∧ Hid (xs = fl ts j1) ∧ Hid (Wb w [] p g c xs wr))
      case atStart => exact ⟨0, p1, g1, c1, [], by omega, rfl, rfl, Lib.hid rfl, K⟩
      case round =>
        clear K
        obtain ⟨j1, p2, g2, c2, xs, hj1, rfl, rfl, X, K⟩ := hrel
        obtain ⟨k2, rfl⟩ : ∃ k2 : Nat, k2 = gk := ⟨_, rfl⟩
        by_cases hlt : j1 < j
        · obtain rfl := RR.out.head (by omega)
          have ht : j1 < ts.length := by rw [← HN.out]; exact hlt
          obtain ⟨p3, g3, o3, c3, hv3, hc3, R3⟩ := TT.out j1 ht
          have cell := (RR.out.below K.out.mem.below).cell j1 (by omega)
          rw [hv3] at cell
          have CC := Lib.hid cell
          have R4 := Lib.hid (R3.below K.out.mem.below)
          have e1 := HS.out (j1 + 1) (by omega)
          rw [← fl_length, fl_succ ts ht, List.length_append, ← X.out] at e1
          have E1 := Lib.hid e1
          have E2 := Lib.hid (fl_succ ts ht)
          clear e1 cell hv3 hc3 R3
          go_wp2_with (first
            | (refine wpList_ix (k := 1) (j := j1) Tryd.underlying70 (by kernel_rfl) (.tmp 25) (.tmp 27) rfl rfl rfl rfl hlt rfl ?_; rw [Nat.mul_one])
            | (refine wpList_ld1 22 (.tmp 29) rfl rfl rfl Tryd.underlying22 rfl CC.out ?_)
            | (at_builtin; refine wpList_wb rfl (.tmp 31) (.tmp 32) rfl K rfl rfl rfl R4 E1.out ?_; clear K; intro p4 g4 c4 w4 zs Z K))
          go_roundg (j - (j1 + 1))
          case measure => omega
          case rel => exact ⟨j1 + 1, p4, g4, c4, zs, by omega, by go_num, rfl, Lib.hid (by rw [Z.out, E2.out, X.out, tl_lf]), K⟩
        · obtain rfl : j1 = j := by omega
          have E2 := Lib.hid (show xs = ts.flatten by rw [X.out, HN.out, fl_all])
          go_wp2
          go_ret
          rw [← E2.out]
          exact ⟨p2, g2, c2, rfl, K.out.own, K.out.mem.below⟩
end Go.Proofs.YtghjgkgfpblijaaDoor
