/- SHA-256 twice, the program's and the document's; what lay in memory stays. -/
import Derived.Test.YtoopcmcmjaikhaaDoorSNew
set_option maxRecDepth 100000
namespace Go.Proofs.YtoopcmcmjaikhaaDoor.S
open Go.RowKit Go.Lib
attribute [local go_sem ↓] Go.wp_at_zero Go.wp_at_succ

/-- The bytes of a sum, as numbers. -/
def shaI (x : Nat → Int) (n i : Nat) : Int := (mst (padByte x n) ((ahead n + 8) / 64)).nth (i / 4) / 2 ^ (24 - 8 * (i % 4)) % 256
theorem sha_num (x : Nat → Int) (n i : Nat) : sha x n i = .int .u8 (shaI x n i) := rfl
theorem shaI_range (x : Nat → Int) (n i : Nat) : 0 ≤ shaI x n i ∧ shaI x n i ≤ 255 := by unfold shaI; omega
/-- SHA-256 of SHA-256. -/
def sha2 (x : Nat → Int) (n : Nat) : Nat → Value := sha (shaI x n) 32
theorem run_all25 (b o : Nat) (w : World) : (Instr.sliceAt 23 (.pointer (some ⟨b, o, none⟩)) none none none).run Tryd.prog w = .ok (.slice (some ⟨b, o, none⟩) 32 32) w := by
  have hl : Tryd.prog.arrayLen 23 = 32 := by kernel_rfl
  have he : Tryd.prog.elem 23 = 5 := by kernel_rfl
  have ht : Tryd.prog.underlying 23 = some (.array (Tryd.prog.arrayLen 23) (Tryd.prog.elem 23)) := by rw [hl, he]; exact Tryd.underlying23
  have hs : ∀ w, (Go.sizeOf 5).run Tryd.prog w = .ok 1 w := fun w => by kernel_rfl
  rw [run_sliceAt_array_all w 23 ⟨b, o, none⟩ ht, he, hs, hl]
  simp only [Result.andThen_ok, slicedAt]
  rw [if_neg (by omega), Nat.zero_mul, add_at]
  rfl
theorem lies_of_sum {b n : Nat} {x : Nat → Int} {w : World} (h : HasAt b 23 32 (sha x n) w) : Lies w (some ⟨b, 0, none⟩) b 0 32 (shaI x n) :=
  ⟨fun _ => rfl, fun i hi => by rw [Nat.zero_add]; exact h.cell i hi⟩

set_option maxRecDepth 100000 in
set_option maxHeartbeats 2000000 in
theorem double_any (p : Option Addr) (g o n c : Nat) (x : Nat → Int) (hx : ∀ i, 0 ≤ x i ∧ x i ≤ 255) (hn : n ≤ 1152921504606846975) (hnc : n ≤ c) (hcm : c ≤ 9223372036854775807) (w : World) (hl : Lies w p g o n x) (hs : Both w) :
    Calls Tryd.prog 61 #[.slice p n c] w fun e w' => e = .returned (.agg (arr 32 (sha2 x n))) ∧ Below w.heap.size w w' := by
  have k1 := HasAt.new w zb 32 23
  have k2 := below_new w (.cells (arr 32 zb) 23)
  have k3 := sum_any p g o n c x hx hn hnc hcm _ (hl.below k2) (hs.below k2)
  have K1 := Lib.hid (And.intro k1 (And.intro k2 (hs.below k2)))
  have K3 := Lib.hid k3
  clear hx k1 k2 k3 hl hs
  go_enter Tryd.func61, Tryd.ntmps61
  go_upto_region 2 with (first
    | (go_at_call 94; refine K3.out.mono ?_; rintro e w1 ⟨rfl, hw1⟩; have H1 := Lib.hid (And.intro hw1 (HasAt.new w1 zb 32 23)); clear hw1)
    | (refine wpList_store_all rfl 23 (.tmp 3) (.tmp 5) rfl w1.heap.size 32 rfl 23 zb (sha x n) H1.out.2 rfl (by kernel_rfl) (fun _ => rfl) ?_; intro w2 hh2 ho2; have H2 := Lib.hid (And.intro hh2 ho2); clear hh2 ho2))
  have H2 : Hid (HasAt w1.heap.size 23 32 (sha x n) w2 ∧ Only w1.heap.size (w1.alloc (.cells (arr 32 zb) 23)) w2) := H2
  have hs1 : w.heap.size + 1 ≤ w1.heap.size := by have := H1.out.1.size; simpa using this
  have kz1 : HasAt w.heap.size 23 32 zb w1 := K1.out.1.below H1.out.1
  have kw1 : Below w.heap.size w w1 := K1.out.2.1.trans (H1.out.1.mono (by simp))
  have b1 : Below w1.heap.size w1 w2 := (below_new w1 _).trans (H2.out.2.below (Nat.le_refl _) (by simp))
  have kz2 : HasAt w.heap.size 23 32 zb w2 := kz1.below b1
  have kw2 : Below w.heap.size w w2 := kw1.trans (b1.mono kw1.size)
  have k5 := sum_any (some ⟨w1.heap.size, 0, none⟩) w1.heap.size 0 32 32 (shaI x n) (fun i => shaI_range x n i) (by omega) (Nat.le_refl _) (by omega) w2 (lies_of_sum H2.out.1) ((K1.out.2.2.below H1.out.1).below b1)
  have K5 := Lib.hid k5
  have G2 := Lib.hid (And.intro kz2 kw2)
  have sl := run_all25 w1.heap.size 0 w2
  clear kz1 kw1 b1 kz2 kw2 k5 K3 K1 H1 H2
  go_wp2_with (first
    | (go_at_call 94; refine K5.out.mono ?_; rintro e w3 ⟨rfl, hb3⟩; have H3 : Hid (HasAt w.heap.size 23 32 zb w3 ∧ Below w.heap.size w w3) := Lib.hid ⟨G2.out.1.below hb3, G2.out.2.trans (hb3.mono G2.out.2.size)⟩; clear hb3)
    | (refine wpList_store_all rfl 23 (.tmp 2) (.tmp 7) rfl w.heap.size 32 rfl 23 zb (sha2 x n) H3.out.1 rfl (by kernel_rfl) (fun _ => rfl) ?_; intro w4 hh4 ho4))
  refine bodyPost_ret (v := .agg (arr 32 (sha2 x n))) (results_cell_row (fn := Tryd.f61) rfl _ _ w.heap.size 23 _ (0, 0) _ rfl hh4 Tryd.underlying23 rfl (by rw [arr_size]; kernel_rfl)) rfl ⟨rfl, ?_⟩
  exact H3.out.2.trans (ho4.below (Nat.le_refl _) H3.out.2.size)

set_option maxRecDepth 100000 in
set_option maxHeartbeats 2000000 in
theorem ref_double_any (p : Option Addr) (g o n c : Nat) (x : Nat → Int) (hx : ∀ i, 0 ≤ x i ∧ x i ≤ 255) (hn : n ≤ 140737488351232) (hnil : p = none → n = 0 ∧ c = 0) (w : World) (hl : Lies w p g o n x) :
    Calls Tryd.prog 29 #[.slice p n c] w fun e w' => e = .returned (.agg (arr 32 (sha2 x n))) ∧ Below w.heap.size w w' := by
  have k1 := HasAt.new w zb 32 23
  have k2 := below_new w (.cells (arr 32 zb) 23)
  have k3 := ref_sum_any p g o n c x hx hn hnil _ (hl.below k2)
  have K1 := Lib.hid (And.intro k1 (And.intro k2 trivial))
  have K3 := Lib.hid k3
  clear hx k1 k2 k3 hl
  go_enter Tryd.func29, Tryd.ntmps29
  go_upto_region 2 with (first
    | (go_at_call 59; refine K3.out.mono ?_; rintro e w1 ⟨rfl, hw1⟩; have H1 := Lib.hid (And.intro hw1 (HasAt.new w1 zb 32 23)); clear hw1)
    | (refine wpList_store_all rfl 23 (.tmp 3) (.tmp 5) rfl w1.heap.size 32 rfl 23 zb (sha x n) H1.out.2 rfl (by kernel_rfl) (fun _ => rfl) ?_; intro w2 hh2 ho2; have H2 := Lib.hid (And.intro hh2 ho2); clear hh2 ho2))
  have H2 : Hid (HasAt w1.heap.size 23 32 (sha x n) w2 ∧ Only w1.heap.size (w1.alloc (.cells (arr 32 zb) 23)) w2) := H2
  have hs1 : w.heap.size + 1 ≤ w1.heap.size := by have := H1.out.1.size; simpa using this
  have kz1 : HasAt w.heap.size 23 32 zb w1 := K1.out.1.below H1.out.1
  have kw1 : Below w.heap.size w w1 := K1.out.2.1.trans (H1.out.1.mono (by simp))
  have b1 : Below w1.heap.size w1 w2 := (below_new w1 _).trans (H2.out.2.below (Nat.le_refl _) (by simp))
  have kz2 : HasAt w.heap.size 23 32 zb w2 := kz1.below b1
  have kw2 : Below w.heap.size w w2 := kw1.trans (b1.mono kw1.size)
  have k5 := ref_sum_any (some ⟨w1.heap.size, 0, none⟩) w1.heap.size 0 32 32 (shaI x n) (fun i => shaI_range x n i) (by omega) (fun h => by cases h) w2 (lies_of_sum H2.out.1)
  have K5 := Lib.hid k5
  have G2 := Lib.hid (And.intro kz2 kw2)
  have sl := run_all25 w1.heap.size 0 w2
  clear kz1 kw1 b1 kz2 kw2 k5 K3 K1 H1 H2
  go_wp2_with (first
    | (go_at_call 59; refine K5.out.mono ?_; rintro e w3 ⟨rfl, hb3⟩; have H3 : Hid (HasAt w.heap.size 23 32 zb w3 ∧ Below w.heap.size w w3) := Lib.hid ⟨G2.out.1.below hb3, G2.out.2.trans (hb3.mono G2.out.2.size)⟩; clear hb3)
    | (refine wpList_store_all rfl 23 (.tmp 2) (.tmp 7) rfl w.heap.size 32 rfl 23 zb (sha2 x n) H3.out.1 rfl (by kernel_rfl) (fun _ => rfl) ?_; intro w4 hh4 ho4))
  refine bodyPost_ret (v := .agg (arr 32 (sha2 x n))) (results_cell_row (fn := Tryd.f29) rfl _ _ w.heap.size 23 _ (0, 0) _ rfl hh4 Tryd.underlying23 rfl (by rw [arr_size]; kernel_rfl)) rfl ⟨rfl, ?_⟩
  exact H3.out.2.trans (ho4.below (Nat.le_refl _) H3.out.2.size)

end Go.Proofs.YtoopcmcmjaikhaaDoor.S

