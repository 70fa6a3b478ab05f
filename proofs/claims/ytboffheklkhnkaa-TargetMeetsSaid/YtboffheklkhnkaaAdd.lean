/- The program's sum of two numbers of 256 bits: it returns the sum and whether it goes over; what lay in memory stays. -/
import Derived.Test.YtboffheklkhnkaaRep
namespace Go.Proofs.Ytboffheklkhnkaa
open Go.RowKit Go.Lib
attribute [local go_sem ↓] Go.wp_at_zero Go.wp_at_succ

/-- The first k words of a number. -/
def firstW (n k : Nat) : Nat → Value := fun i => .int .u64 ((if i < k then limb n i else 0 : Nat) : Int)
theorem firstW_zero (n i : Nat) : wl 0 i = firstW n 0 i := by
  unfold wl firstW limb
  simp
theorem firstW_step (n k i : Nat) : upd (firstW n k) k (.int .u64 ((limb n k : Nat) : Int)) i = firstW n (k + 1) i := by
  unfold upd firstW
  by_cases e : i = k
  · subst e; rw [if_pos rfl, if_pos (by omega)]
  · rw [if_neg e]
    by_cases h : i < k
    · rw [if_pos h, if_pos (by omega)]
    · rw [if_neg h, if_neg (by omega)]
theorem firstW_all (n i : Nat) (hi : i < 4) : firstW n 4 i = wl n i := by
  unfold firstW wl
  rw [if_pos hi]

/-- What a sum's loop keeps. -/
structure Four (w : World) (a b n j : Nat) (wr : World) : Prop where
  below : Below w.heap.size w wr
  left : HasAt w.heap.size 24 4 (wl a) wr
  right : HasAt (w.heap.size + 1) 24 4 (wl b) wr
  res : HasAt (w.heap.size + 1 + 1) 24 4 (wl 0) wr
  sum : HasAt (w.heap.size + 1 + 1 + 1) 24 4 (firstW n j) wr
theorem Four.step {w : World} {a b n j : Nat} {wr : World} (h : Four w a b n j wr) : Four w a b n (j + 1) (wr.setCell ⟨w.heap.size + 1 + 1 + 1, j, none⟩ (.int .u64 ((limb n j : Nat) : Int))) :=
  ⟨h.below.setCell (by simp; omega) _, h.left.other _ _ (by simp; omega), h.right.other _ _ (by simp), h.res.other _ _ (by simp), h.sum.set j _ fun i _ => firstW_step n j i⟩
theorem Four.start (w : World) (a b n : Nat) : Four w a b n 0 ((((w.alloc (.cells (arr 4 (wl a)) 24)).alloc (.cells (arr 4 (wl b)) 24)).alloc (.cells z4 24)).alloc (.cells z4 24)) := by
  rw [← z4_is]
  have s1 : (w.alloc (.cells (arr 4 (wl a)) 24)).heap.size = w.heap.size + 1 := by simp
  generalize hw1 : w.alloc (.cells (arr 4 (wl a)) 24) = w1 at *
  have s2 : (w1.alloc (.cells (arr 4 (wl b)) 24)).heap.size = w.heap.size + 1 + 1 := by simp [s1]
  generalize hw2 : w1.alloc (.cells (arr 4 (wl b)) 24) = w2 at *
  have s3 : (w2.alloc (.cells (arr 4 (wl 0)) 24)).heap.size = w.heap.size + 1 + 1 + 1 := by simp [s2]
  generalize hw3 : w2.alloc (.cells (arr 4 (wl 0)) 24) = w3 at *
  refine ⟨?_, ?_, ?_, ?_, ?_⟩
  · subst hw3 hw2 hw1
    exact (((below_new w _).trans ((below_new _ _).mono (by simp))).trans ((below_new _ _).mono (by simp <;> omega))).trans ((below_new _ _).mono (by simp <;> omega))
  · subst hw3 hw2 hw1
    exact (((HasAt.new w (wl a) 4 24).alloc _).alloc _).alloc _
  · subst hw3 hw2
    have h := HasAt.new w1 (wl b) 4 24
    rw [s1] at h
    exact (h.alloc _).alloc _
  · subst hw3
    have h := HasAt.new w2 (wl 0) 4 24
    rw [s2] at h
    exact h.alloc _
  · have h := HasAt.new w3 (wl 0) 4 24
    rw [s3] at h
    exact h.to fun i _ => firstW_zero n i
theorem Four.drew {w : World} {a b n j : Nat} {wr : World} (h : Four w a b n j wr) : Four w a b n j wr.drew :=
  ⟨h.below.drew, h.left.drew, h.right.drew, h.res.drew, h.sum.drew⟩

set_option maxRecDepth 100000 in
set_option maxHeartbeats 2000000 in
theorem add_any (a b : Nat) (ha : a < P256) (hb : b < P256) (w : World) :
    Calls Try.prog 20 #[wide a, wide b] w fun e w' => e = .returned (.tuple #[wide (a + b), .bool (decide (P256 ≤ a + b))]) ∧ Below w.heap.size w w' := by
  have HAB := Lib.hid (And.intro ha hb)
  clear ha hb
  unfold wide
  go_enter Try.func20, Try.ntmps20
  go_wp2
  go_loopg [7, 9] 4 (fun k c i wr => ∃ j : Nat, j + k = 4 ∧ i = .int .i64 (j : Int) ∧ c = .int .u64 ((carry a b j : Nat) : Int) ∧ Four w a b (a + b) j wr)
  case atStart =>
    exact ⟨0, by omega, rfl, by rw [carry_zero]; rfl, Four.start w a b (a + b)⟩
  case round =>
    obtain ⟨j, hj, rfl, rfl, hF⟩ := hrel
    obtain ⟨kk, rfl⟩ : ∃ kk : Nat, kk = gk := ⟨_, rfl⟩
    by_cases hlt : j < 4
    · go_upto_region 6 with fail
      have hcl := carry_le a b j
      have hs := carry_succ a b j
      have hs2 := limb_sum a b j
      have ca := hF.left.cell j hlt
      have cb := hF.right.cell j hlt
      unfold wl at ca cb
      have HH := Lib.hid hF
      have cs := hF.sum.cell j hlt
      have fs := hF.sum.free j
      have HC := call_add64 (limb a j) (limb b j) (carry a b j) hcl
      rw [← hs2, ← hs] at HC
      clear hs hs2 hF
      go_region
      all_goals
        clear ca cb cs fs HC
        go_wp2
        go_roundg (kk - 1)
        case measure => omega
        case rel => exact ⟨j + 1, by omega, by go_num, rfl, by first | exact HH.out.drew.step | exact HH.out.step.drew⟩
    · obtain rfl : j = 4 := by omega
      have he := carry_end a b HAB.out.1 HAB.out.2
      have hs := hF.sum.to (firstW_all (a + b))
      have H := Lib.hid (And.intro hF.below (And.intro hF.res hs))
      clear hs hF
      have hc : (((carry a b 4 : Nat) : Int) != 0) = decide (P256 ≤ a + b) := by
        rw [he]
        by_cases h : P256 ≤ a + b
        · rw [if_pos h]; simp [h]
        · rw [if_neg h]; simp [h]
      have HC := Lib.hid hc
      clear hc he
      go_wp2_with (first
        | (with_reducible refine wpList_load_all rfl 24 (.tmp 6) rfl (w.heap.size + 1 + 1 + 1) 4 rfl 24 _ H.out.2.2 _ Try.underlying24 rfl (by kernel_rfl) ?_)
        | (with_reducible refine wpList_store_all rfl 24 (.tmp 4) (.tmp 26) rfl (w.heap.size + 1 + 1) 4 rfl 24 _ _ H.out.2.1 rfl (by kernel_rfl) (fun _ => rfl) ?_; intro w2 hh ho))
      rw [HC.out]
      exact bodyPost_ret (res_row_tmp (fn := Try.f20) rfl _ _ (w.heap.size + 1 + 1) 4 24 _ _ rfl hh Try.underlying24 rfl (by kernel_rfl)) rfl ⟨rfl, H.out.1.trans (ho.below (by omega) H.out.1.size)⟩
end Go.Proofs.Ytboffheklkhnkaa
