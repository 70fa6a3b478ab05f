/- The document's spread: of 64 bytes it returns the 64 words of SHA-256's schedule; what lay in memory stays. -/
import Derived.Test.YtghjgkgfpblijaaDoorSA
import Derived.Test.YtghjgkgfpblijaaDoorZA
import Derived.RegionTactic
import Derived.ChangeAlike
import Derived.BigRegion
import Derived.Deep.RegionWith
import Derived.Deep.DrawnRows
import Derived.Deep.DeepCutAuto
import Derived.Deep.LoopGhost
import Derived.StillTailTactics
import Derived.Deep.QuietTactic
import Derived.BigQuiet
namespace Go.Proofs.YtghjgkgfpblijaaDoor.S
open Go.RowKit Go.Lib
attribute [local go_sem ↓] Go.wp_at_zero Go.wp_at_succ

/-- A word, byte by byte. -/
def part (x : Nat → Int) (j : Nat) : Nat → Int
  | 0 => 0
  | q + 1 => part x j q * 256 + x (4 * j + q)
theorem part_4 (x : Nat → Int) (j : Nat) : part x j 4 = be32 x j := by
  simp only [part, be32, Nat.add_zero]
  omega
theorem part_lt (x : Nat → Int) (hx : ∀ i, 0 ≤ x i ∧ x i ≤ 255) (j q : Nat) (hq : q < 4) : 0 ≤ part x j q ∧ part x j q ≤ 16777215 := by
  have h0 := hx (4 * j)
  have h1 := hx (4 * j + 1)
  have h2 := hx (4 * j + 2)
  match q, hq with
  | 0, _ => simp [part]
  | 1, _ => simp only [part, Nat.add_zero]; omega
  | 2, _ => simp only [part, Nat.add_zero]; omega
  | 3, _ => simp only [part, Nat.add_zero]; omega

/-- The words so far, noughts behind them; and with one word half read. -/
def sofar (x : Nat → Int) (j : Nat) : Nat → Value := fun t => .int .u32 (if t < j then W x t else 0)
def midway (x : Nat → Int) (j q : Nat) : Nat → Value := fun t => .int .u32 (if t < j then W x t else if t = j then part x j q else 0)
theorem midway_zero (x : Nat → Int) (j t : Nat) : sofar x j t = midway x j 0 t := by
  unfold sofar midway
  by_cases h : t < j
  · rw [if_pos h, if_pos h]
  · rw [if_neg h, if_neg h]
    by_cases h2 : t = j
    · rw [if_pos h2]; rfl
    · rw [if_neg h2]
theorem midway_step (x : Nat → Int) (j q t : Nat) : upd (midway x j q) j (.int .u32 (part x j q * 256 + x (4 * j + q))) t = midway x j (q + 1) t := by
  unfold upd midway
  by_cases h2 : t = j
  · rw [if_pos h2, if_neg (by omega), if_pos h2]; rfl
  · rw [if_neg h2]
    by_cases h : t < j
    · rw [if_pos h, if_pos h]
    · rw [if_neg h, if_neg h, if_neg h2, if_neg h2]
theorem midway_end (x : Nat → Int) (j t : Nat) (hj : j < 16) : midway x j 4 t = sofar x (j + 1) t := by
  unfold sofar midway
  by_cases h : t < j
  · rw [if_pos h, if_pos (by omega)]
  · rw [if_neg h]
    by_cases h2 : t = j
    · subst h2; rw [if_pos rfl, if_pos (by omega), part_4, W_low x t hj]
    · rw [if_neg h2, if_neg (by omega)]
theorem sofar_step (x : Nat → Int) (j t : Nat) : upd (sofar x j) j (.int .u32 (W x j)) t = sofar x (j + 1) t := by
  unfold upd sofar
  by_cases h2 : t = j
  · subst h2; rw [if_pos rfl, if_pos (by omega)]
  · rw [if_neg h2]
    by_cases h : t < j
    · rw [if_pos h, if_pos (by omega)]
    · rw [if_neg h, if_neg (by omega)]
theorem sofar_at (x : Nat → Int) (j t : Nat) (h : t < j) : sofar x j t = .int .u32 (W x t) := by unfold sofar; rw [if_pos h]
theorem midway_at (x : Nat → Int) (j q : Nat) : midway x j q j = .int .u32 (part x j q) := by unfold midway; rw [if_neg (by omega), if_pos rfl]

set_option maxRecDepth 100000 in
set_option maxHeartbeats 2000000 in
theorem ref_spread_any (g o c : Nat) (x : Nat → Int) (hx : ∀ i, 0 ≤ x i ∧ x i ≤ 255) (w : World) (hl : ∀ i, i < 64 → w.cell? ⟨g, o + i, none⟩ = some (.int .u8 (x i))) :
    Calls Tryd.prog 68 #[.slice (some ⟨g, o, none⟩) 64 c] w fun e w' => e = .returned (.agg (arr 64 fun i => .int .u32 (W x i))) ∧ Below w.heap.size w w' := by
  have HL := Lib.hid hl
  have HX := Lib.hid hx
  clear hl hx
  go_enter Tryd.func68, Tryd.ntmps68
  go_wp2
  go_loopg [8] 64 (fun k i wr => ∃ j : Nat, j + k = 64 ∧ i = .int .i64 (j : Int) ∧ Below w.heap.size w wr ∧ HasAt w.heap.size 87 64 (fun _ => .int .u32 0) wr ∧
    HasAt (w.heap.size + 1) 87 64 (sofar x j) wr)
  case atStart =>
    refine ⟨0, by omega, rfl, ?_, ?_, ?_⟩
    · exact (below_new w _).trans ((below_new _ _).mono (by simp))
    · exact HasAt.alloc (HasAt.new w (fun _ => .int .u32 0) 64 87) _
    · have h := HasAt.new (w.alloc (.cells (arr 64 (fun _ => .int .u32 0)) 87)) (fun _ => .int .u32 0) 64 87
      have e : (w.alloc (.cells (arr 64 (fun _ => .int .u32 0)) 87)).heap.size = w.heap.size + 1 := by simp
      rw [e] at h
      exact h
  case round =>
    obtain ⟨j, hj, rfl, hb, hA, hB⟩ := hrel
    by_cases hlt : j < 64
    · by_cases hlo : j < 16
      · have hin := hB.to (fun t _ => midway_zero x j t)
        obtain ⟨wo, rfl⟩ : ∃ wo : World, wo = wr := ⟨_, rfl⟩
        obtain ⟨kk, rfl⟩ : ∃ kk : Nat, kk = gk := ⟨_, rfl⟩
        have H := Lib.hid (And.intro hb (And.intro hA hin))
        clear hb hA hB hin
        go_upto_region 6 with fail
        go_wp2_with fail
        go_loopg [13] 4 (fun k i wi => ∃ q : Nat, q + k = 4 ∧ i = .int .i64 (q : Int) ∧ Below w.heap.size w wi ∧ HasAt w.heap.size 87 64 (fun _ => .int .u32 0) wi ∧
          HasAt (w.heap.size + 1) 87 64 (midway x j q) wi)
        case atStart => exact ⟨0, by omega, rfl, H.out⟩
        case round =>
          clear H
          obtain ⟨q, hq, rfl, hb, hA, hB⟩ := hrel
          by_cases hl4 : q < 4
          · have c1 : wr.cell? ⟨w.heap.size + 1, j, none⟩ = some (.int .u32 (part x j q)) := by
              have h1 := hB.cell j (by omega)
              rw [midway_at] at h1
              exact h1
            have f1 := hB.free j
            have c2 : wr.cell? ⟨g, o + (4 * j + q), none⟩ = some (.int .u8 (x (4 * j + q))) := by
              have h1 := HL.out (4 * j + q) (by omega)
              rw [hb.cell (cell_lt h1)]; exact h1
            obtain ⟨b0, b1⟩ := HX.out (4 * j + q)
            obtain ⟨p0, p1⟩ := part_lt x HX.out j q hl4
            have H := Lib.hid (And.intro hb (And.intro hA hB))
            clear hb hA hB
            go_wp2
            go_region
            all_goals
              go_wp2
              go_roundg (gk - 1)
              case measure => omega
              case rel => exact ⟨q + 1, by omega, by go_num, (H.out.1.setCell (by simp) _).drew, (H.out.2.1.other _ _ (by simp)).drew, (H.out.2.2.set j _ (fun t _ => midway_step x j q t)).drew⟩
          · obtain rfl : q = 4 := by omega
            have H := Lib.hid (And.intro hb (And.intro hA hB))
            clear hb hA hB
            go_wp2
            go_roundg (kk - 1)
            case measure => omega
            case rel => exact ⟨j + 1, by omega, by go_num, H.out.1, H.out.2.1, H.out.2.2.to (fun t _ => midway_end x j t hlo)⟩
      · have c1 : wr.cell? ⟨w.heap.size + 1, j - 16, none⟩ = some (.int .u32 (W x (j - 16))) := by
          have h1 := hB.cell (j - 16) (by omega)
          rw [sofar_at _ _ _ (by omega)] at h1
          exact h1
        have c2 : wr.cell? ⟨w.heap.size + 1, j - 15, none⟩ = some (.int .u32 (W x (j - 15))) := by
          have h1 := hB.cell (j - 15) (by omega)
          rw [sofar_at _ _ _ (by omega)] at h1
          exact h1
        have c3 : wr.cell? ⟨w.heap.size + 1, j - 7, none⟩ = some (.int .u32 (W x (j - 7))) := by
          have h1 := hB.cell (j - 7) (by omega)
          rw [sofar_at _ _ _ (by omega)] at h1
          exact h1
        have c4 : wr.cell? ⟨w.heap.size + 1, j - 2, none⟩ = some (.int .u32 (W x (j - 2))) := by
          have h1 := hB.cell (j - 2) (by omega)
          rw [sofar_at _ _ _ (by omega)] at h1
          exact h1
        have c5 : ∃ v, wr.cell? ⟨w.heap.size + 1, j, none⟩ = some v := ⟨_, hB.cell j (by omega)⟩
        obtain ⟨v5, c5⟩ := c5
        have f1 := hB.free j
        have T1 : ∀ (y : Int) (n : Nat) (w : World), n ≤ 31 → In32 y → Calls Tryd.prog 69 #[.int .u32 y, .int .i64 n] w fun e w'' => e = .returned (.int .u32 (rotr y n)) ∧ w'' = w := fun y n w hn hy =>
          (turned_any y n hn hy w).mono fun e w' ⟨he, hw⟩ => ⟨he, hw.symm⟩
        have i15 := W_in x HX.out (j - 15)
        have i2 := W_in x HX.out (j - 2)
        have HI := Lib.hid (And.intro i15 i2)
        have HT := Lib.hid T1
        have H := Lib.hid (And.intro hb (And.intro hA hB))
        clear hb hA hB i15 i2 T1
        obtain ⟨kk, rfl⟩ : ∃ kk : Nat, kk = gk := ⟨_, rfl⟩
        go_upto_region 11 with fail
        go_cut [6, 7] (fun s6 s7 wx => s6 = .int .u32 (W x (j - 15)) ∧ s7 = .int .u32 (W x (j - 2)) ∧ ∃ nq, wx = wr.drewN nq)
        case first =>
          go_quiet (fail)
          go_wp2_with fail
          go_meet
          exact ⟨rfl, rfl, _, rfl⟩
        case rest =>
          obtain ⟨rfl, rfl, nq, rfl⟩ := hcut
          have d1 : ∀ a, ((wr.drewN nq).drew).cell? a = wr.cell? a := fun _ => rfl
          have d2 : ∀ a, ((wr.drewN nq).drew).frozen? a = wr.frozen? a := fun _ => rfl
          have hh : ((wr.drewN nq).drew).heap = wr.heap := rfl
          have HW : Hid (∀ B, Below B w wr → Below B w ((wr.drewN nq).drew)) := Lib.hid (fun B h => ⟨h.os, h.tape, h.output, h.size, h.block⟩)
          go_upto_region 12 with fail
          refine wp_region_still_tail 29 (by kernel_rfl) (by kernel_rfl) ?_
          simp only [List.take_succ_cons, List.take_zero, List.drop_succ_cons, List.drop_zero]
          change wpStill _ _ (wr.drewN nq).drew (fun a' => wpList _ _ _ _ a' (wr.drewN nq).drew) _ _
          generalize (wr.drewN nq).drew = wd at *
          have c1' := (d1 _).trans c1
          have c3' := (d1 _).trans c3
          have c5' := (d1 _).trans c5
          have f1' := (d2 _).trans f1
          have HH := Lib.hid hh
          clear d1 d2 hh c1 c2 c3 c4 c5 f1
          have u1 : (7 : Int) ≤ ↑j := by omega
          have u2 : (16 : Int) ≤ ↑j := by omega
          have u3 : (↑j : Int) < 64 := by omega
          have u4 : (0 : Int) ≤ ↑j := by omega
          have z1 : IntKind.i64.wrap (↑j - 16) = ↑j - 16 := IntWalk.i64_in _ (by omega)
          have z2 : (0 : Int) ≤ ↑j - 16 := by omega
          have z3 : (↑j : Int) - 16 < 64 := by omega
          have z4 : ((↑j : Int) - 16).toNat = j - 16 := by omega
          have y1 : IntKind.i64.wrap (↑j - 7) = ↑j - 7 := IntWalk.i64_in _ (by omega)
          have y2 : (0 : Int) ≤ ↑j - 7 := by omega
          have y3 : (↑j : Int) - 7 < 64 := by omega
          have y4 : ((↑j : Int) - 7).toNat = j - 7 := by omega
          repeat still_step
          still_call (HT.out _ 7 _ (by omega) HI.out.1)
          repeat still_step
          still_call (HT.out _ 18 _ (by omega) HI.out.1)
          repeat still_step
          still_call (HT.out _ 17 _ (by omega) HI.out.2)
          repeat still_step
          still_call (HT.out _ 19 _ (by omega) HI.out.2)
          repeat still_step
          refine wpStill_nil ?_
          go_wp2
          go_roundg (kk - 1)
          case measure => omega
          case rel =>
            have hA := H.out.2.1.of_heap (w' := wd) (by rw [HH.out])
            have hB := H.out.2.2.of_heap (w' := wd) (by rw [HH.out])
            refine ⟨j + 1, by omega, by go_num, (HW.out _ H.out.1).setCell (by simp) _, hA.other _ _ (by simp), hB.set j _ (fun t _ => ?_)⟩
            rw [← sofar_step x j t, W_high x j (by omega)]
            rfl
    · obtain rfl : j = 64 := by omega
      have hS : ∀ t, t < 64 → sofar x 64 t = .int .u32 (W x t) := fun t ht => sofar_at x 64 t ht
      have hB' := hB.to hS
      have H := Lib.hid (And.intro hb (And.intro hA hB'))
      clear hb hA hB hS hB'
      go_wp2_with (first
        | (with_reducible refine wpList_load_all rfl 87 (.tmp 3) rfl (w.heap.size + 1) 64 rfl 87 _ H.out.2.2 _ Tryd.underlying87 rfl (by kernel_rfl) ?_)
        | (with_reducible refine wpList_store_all rfl 87 (.tmp 2) (.tmp 70) rfl w.heap.size 64 rfl 87 _ _ H.out.2.1 rfl (by kernel_rfl) (fun _ => rfl) ?_; intro w2 hh ho))
      refine bodyPost_ret (v := .agg (arr 64 fun i => .int .u32 (W x i))) (results_cell_row (fn := Tryd.f68) rfl _ _ w.heap.size 87 _ (0, 0) _ rfl hh Tryd.underlying87 rfl (by rw [arr_size]; kernel_rfl)) rfl ⟨rfl, ?_⟩
      exact H.out.1.trans (ho.below (Nat.le_refl _) H.out.1.size)
end Go.Proofs.YtghjgkgfpblijaaDoor.S
