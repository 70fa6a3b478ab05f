/- The program's difference of two numbers of 256 bits: it returns the difference (modulo 2^256) and whether it goes over; what lay in memory stays. -/
import Derived.Test.YtboffheklkhnkaaAdd
namespace Go.Proofs.Ytboffheklkhnkaa
open Go.RowKit Go.Lib
attribute [local go_sem ↓] Go.wp_at_zero Go.wp_at_succ

set_option maxRecDepth 100000 in
set_option maxHeartbeats 2000000 in
theorem sub_any (a b : Nat) (ha : a < P256) (hb : b < P256) (w : World) :
    Calls Try.prog 22 #[wide a, wide b] w fun e w' => e = .returned (.tuple #[wide (a + P256 - b), .bool (decide (a < b))]) ∧ Below w.heap.size w w' := by
  have HAB := Lib.hid (And.intro ha hb)
  clear ha hb
  unfold wide
  go_enter Try.func22, Try.ntmps22
  go_wp2
  go_loopg [7, 9] 4 (fun k c i wr => ∃ j : Nat, j + k = 4 ∧ i = .int .i64 (j : Int) ∧ c = .int .u64 ((borrow a b j : Nat) : Int) ∧ Four w a b (a + P256 - b) j wr)
  case atStart =>
    exact ⟨0, by omega, rfl, by rw [borrow_zero]; rfl, Four.start w a b (a + P256 - b)⟩
  case round =>
    obtain ⟨j, hj, rfl, rfl, hF⟩ := hrel
    obtain ⟨kk, rfl⟩ : ∃ kk : Nat, kk = gk := ⟨_, rfl⟩
    by_cases hlt : j < 4
    · go_upto_region 6 with fail
      have hcl := borrow_le a b j
      have hs := borrow_succ a b j
      have hs2 := limb_diff a b j hlt (Nat.le_of_lt HAB.out.2)
      have ca := hF.left.cell j hlt
      have cb := hF.right.cell j hlt
      unfold wl at ca cb
      have HH := Lib.hid hF
      have cs := hF.sum.cell j hlt
      have fs := hF.sum.free j
      have HC := call_sub64 (limb a j) (limb b j) (borrow a b j) hcl
      rw [← hs2, ← hs] at HC
      clear hs hs2 hF
      go_region
      all_goals
        clear ca cb cs fs HC
        go_wp2
        go_roundg (kk - 1)
        case measure => omega
        case rel => exact ⟨j + 1, by omega, by go_num, rfl, by first | exact HH.out.drew.step | exact HH.out.step.drew⟩
    · obtain rfl : j = 4 := by omega
      have he := borrow_end a b HAB.out.1 HAB.out.2
      have hs := hF.sum.to (firstW_all (a + P256 - b))
      have H := Lib.hid (And.intro hF.below (And.intro hF.res hs))
      clear hs hF
      have hc : (((borrow a b 4 : Nat) : Int) != 0) = decide (a < b) := by
        rw [he]
        by_cases h : a < b
        · rw [if_pos h]; simp [h]
        · rw [if_neg h]; simp [h]
      have HC := Lib.hid hc
      clear hc he
      go_wp2_with (first
        | (with_reducible refine wpList_load_all rfl 24 (.tmp 6) rfl (w.heap.size + 1 + 1 + 1) 4 rfl 24 _ H.out.2.2 _ Try.underlying24 rfl (by kernel_rfl) ?_)
        | (with_reducible refine wpList_store_all rfl 24 (.tmp 4) (.tmp 26) rfl (w.heap.size + 1 + 1) 4 rfl 24 _ _ H.out.2.1 rfl (by kernel_rfl) (fun _ => rfl) ?_; intro w2 hh ho))
      rw [HC.out]
      exact bodyPost_ret (res_row_tmp (fn := Try.f22) rfl _ _ (w.heap.size + 1 + 1) 4 24 _ _ rfl hh Try.underlying24 rfl (by kernel_rfl)) rfl ⟨rfl, H.out.1.trans (ho.below (by omega) H.out.1.size)⟩
end Go.Proofs.Ytboffheklkhnkaa
