/- A hasher's Write and Sum: of a hasher that New made, and of one that no call made. -/
import Derived.Test.YtbiobejfjhmccaaDoorNew
namespace Go.Proofs.YtbiobejfjhmccaaDoor
open Go.RowKit Go.Lib
attribute [local go_sem ↓] Go.wp_at_zero Go.wp_at_succ

theorem write_nil (s : Value) (w : World) : Calls Tryd.prog 17 #[.pointer none, s] w fun e w' => e = .returned (.int .i64 2) ∧ w = w' := by
  go_enter Tryd.func17, Tryd.ntmps17
  go_wp2
  go_ret
  exact ⟨rfl, rfl⟩
theorem write_unmade (b : Nat) (s : Value) (w : World) (h : w.cell? ⟨b, 0, none⟩ = some (.bool false)) : Calls Tryd.prog 17 #[.pointer (some ⟨b, 0, none⟩), s] w fun e w' => e = .returned (.int .i64 2) ∧ w = w' := by
  go_enter Tryd.func17, Tryd.ntmps17
  go_wp2
  go_ret
  exact ⟨rfl, rfl⟩
theorem hsum_nil (w : World) : Calls Tryd.prog 19 #[.pointer none] w fun e w' => e = .returned (.agg (arr 32 zb)) ∧ Below w.heap.size w w' := by
  have k1 := HasAt.new w zb 32 25
  have k2 := below_new w (.cells (arr 32 zb) 25)
  have K := Lib.hid (And.intro k1 k2)
  clear k1 k2
  go_enter Tryd.func19, Tryd.ntmps19
  go_wp2_with (first
    | (refine wpList_store_all rfl 25 (.tmp 2) (.tmp 12) rfl w.heap.size 32 rfl 25 zb zb K.out.1 rfl (by kernel_rfl) (fun _ => rfl) ?_; intro w4 hh4 ho4))
  refine bodyPost_ret (v := .agg (arr 32 zb)) (results_cell_row (fn := Tryd.f19) rfl _ _ w.heap.size 25 _ (0, 0) _ rfl hh4 Tryd.underlying25 rfl (by rw [arr_size]; kernel_rfl)) rfl ⟨rfl, ?_⟩
  exact K.out.2.trans (ho4.below (Nat.le_refl _) K.out.2.size)
theorem hsum_unmade (b : Nat) (w : World) (h : w.cell? ⟨b, 0, none⟩ = some (.bool false)) : Calls Tryd.prog 19 #[.pointer (some ⟨b, 0, none⟩)] w fun e w' => e = .returned (.agg (arr 32 zb)) ∧ Below w.heap.size w w' := by
  have k1 := HasAt.new w zb 32 25
  have k2 := below_new w (.cells (arr 32 zb) 25)
  have K := Lib.hid (And.intro k1 k2)
  have h0 : ∀ o, (w.alloc o).cell? ⟨b, 0, none⟩ = some (.bool false) := fun o => cell_alloc h
  clear h
  clear k1 k2
  go_enter Tryd.func19, Tryd.ntmps19
  go_wp2_with (first
    | (refine wpList_store_all rfl 25 (.tmp 2) (.tmp 12) rfl w.heap.size 32 rfl 25 zb zb K.out.1 rfl (by kernel_rfl) (fun _ => rfl) ?_; intro w4 hh4 ho4))
  refine bodyPost_ret (v := .agg (arr 32 zb)) (results_cell_row (fn := Tryd.f19) rfl _ _ w.heap.size 25 _ (0, 0) _ rfl hh4 Tryd.underlying25 rfl (by rw [arr_size]; kernel_rfl)) rfl ⟨rfl, ?_⟩
  exact K.out.2.trans (ho4.below (Nat.le_refl _) K.out.2.size)

set_option maxHeartbeats 2000000 in
theorem write_any (b : Nat) (hb2 : b ≠ 2) (x : Nat → Int) (hx : ∀ i, 0 ≤ x i ∧ x i ≤ 255) (m : Nat) (y : Nat → Int) (hy : ∀ i, 0 ≤ y i ∧ y i ≤ 255) (n : Nat) (p : Option Addr) (g o c : Nat) (hnc : n ≤ c) (hcm : c ≤ 9223372036854775807)
    (hmn : m + n < 9223372036854775808) (w : World) (hl : Lies w p g o n y) (hg : 0 < n → g ≠ b) (hh : Hashed b x m w) (hk : KLaid w) :
    Calls Tryd.prog 17 #[.pointer (some ⟨b, 0, none⟩), .slice p n c] w fun e w' => e = .returned (.int .i64 0) ∧ Hashed b (cat x m y) (m + n) w' ∧ Only b w w' := by
  have T := Lib.hid (take_any b hb2 x hx m y hy n p g o c hnc hcm hmn w hl hg hh hk)
  obtain ⟨r, hh, _, _⟩ := hh
  have c0 : w.cell? ⟨b, 0, none⟩ = some (.bool true) := hh.cell 0 (by omega)
  clear hh hk hl hg
  go_enter Tryd.func17, Tryd.ntmps17
  go_wp2_with (go_at_call 23; with_reducible refine T.out.mono ?_; rintro e w2 ⟨rfl, hh2, ho2⟩)
  go_ret
  exact ⟨rfl, hh2, ho2⟩
theorem Hashed.alloc {b : Nat} {x : Nat → Int} {m : Nat} {w : World} (h : Hashed b x m w) (o : Obj) : Hashed b x m (w.alloc o) := by
  obtain ⟨r, h1, h2⟩ := h
  exact ⟨r, h1.alloc _, h2⟩
theorem Hashed.below {b : Nat} {x : Nat → Int} {m : Nat} {w w' : World} (h : Hashed b x m w) (hb : Below w.heap.size w w') : Hashed b x m w' := by
  obtain ⟨r, h1, h2⟩ := h
  exact ⟨r, h1.below hb, h2⟩
theorem Hashed.lt {b : Nat} {x : Nat → Int} {m : Nat} {w : World} (h : Hashed b x m w) : b < w.heap.size := by
  obtain ⟨r, h1, h2⟩ := h
  exact h1.lt
set_option maxHeartbeats 2000000 in
theorem hsum_any (b : Nat) (x : Nat → Int) (hx : ∀ i, 0 ≤ x i ∧ x i ≤ 255) (m : Nat) (hm : m ≤ 1152921504606846975) (w : World) (hh : Hashed b x m w) (hk : KLaid w) :
    Calls Tryd.prog 19 #[.pointer (some ⟨b, 0, none⟩)] w fun e w' => e = .returned (.agg (arr 32 (sha x m))) ∧ Below w.heap.size w w' := by
  have k1 := HasAt.new w zb 32 25
  have k2 := below_new w (.cells (arr 32 zb) 25)
  have T := Lib.hid (end_any b x hx m hm _ (hh.below k2) (hk.below k2))
  have K := Lib.hid (And.intro k1 k2)
  have ks : (w.alloc (.cells (arr 32 zb) 25)).heap.size = w.heap.size + 1 := by simp
  have KS := Lib.hid ks
  obtain ⟨r, hh, _, _⟩ := hh
  have c0 : ∀ o, (w.alloc o).cell? ⟨b, 0, none⟩ = some (.bool true) := fun o => cell_alloc (hh.cell 0 (by omega))
  clear hh hk k1 k2 ks
  go_enter Tryd.func19, Tryd.ntmps19
  go_wp2_with (first
    | (go_at_call 24; refine T.out.mono ?_; rintro e w3 ⟨rfl, hb3⟩; have H3 : Hid (HasAt w.heap.size 25 32 zb w3 ∧ Below w.heap.size w w3) := Lib.hid ⟨K.out.1.below hb3, K.out.2.trans (hb3.mono K.out.2.size)⟩; clear hb3)
    | (refine wpList_store_all rfl 25 (.tmp 2) (.tmp 14) rfl w.heap.size 32 rfl 25 zb (sha x m) H3.out.1 rfl (by kernel_rfl) (fun _ => rfl) ?_; intro w4 hh4 ho4))
  refine bodyPost_ret (v := .agg (arr 32 (sha x m))) (results_cell_row (fn := Tryd.f19) rfl _ _ w.heap.size 25 _ (0, 0) _ rfl hh4 Tryd.underlying25 rfl (by rw [arr_size]; kernel_rfl)) rfl ⟨rfl, ?_⟩
  exact H3.out.2.trans (ho4.below (Nat.le_refl _) H3.out.2.size)
end Go.Proofs.YtbiobejfjhmccaaDoor
