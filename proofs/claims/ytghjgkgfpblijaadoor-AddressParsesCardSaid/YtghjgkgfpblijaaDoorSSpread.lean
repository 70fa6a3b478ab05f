/- The program's spread: of a block of 64 bytes it returns the 64 words of SHA-256's schedule; what lay in memory stays. -/
import Derived.Test.YtghjgkgfpblijaaDoorSRefSpread
set_option maxRecDepth 100000
namespace Go.Proofs.YtghjgkgfpblijaaDoor.S
open Go.RowKit Go.Lib
attribute [local go_sem ↓] Go.wp_at_zero Go.wp_at_succ

/-- n bytes as cells. -/
def bys (x : Nat → Int) : Nat → Value := fun i => .int .u8 (x i)

theorem be_or (a b c d : Int) (ha : 0 ≤ a ∧ a ≤ 255) (hb : 0 ≤ b ∧ b ≤ 255) (hc : 0 ≤ c ∧ c ≤ 255) (hd : 0 ≤ d ∧ d ≤ 255) :
    bits .or .u32 (bits .or .u32 (bits .or .u32 (a * 16777216) (b * 65536)) (c * 256)) d = ((a * 256 + b) * 256 + c) * 256 + d := by
  obtain ⟨a, rfl⟩ : ∃ y : Nat, a = y := ⟨a.toNat, by omega⟩
  obtain ⟨b, rfl⟩ : ∃ y : Nat, b = y := ⟨b.toNat, by omega⟩
  obtain ⟨c, rfl⟩ : ∃ y : Nat, c = y := ⟨c.toNat, by omega⟩
  obtain ⟨d, rfl⟩ : ∃ y : Nat, d = y := ⟨d.toNat, by omega⟩
  have e1 : ((a : Int) * 16777216) = ((a * 16777216 : Nat) : Int) := by omega
  have e2 : ((b : Int) * 65536) = ((b * 65536 : Nat) : Int) := by omega
  have e3 : ((c : Int) * 256) = ((c * 256 : Nat) : Int) := by omega
  rw [e1, e2, e3, u32_or_nat _ _ (by omega) (by omega), nat_join 24 _ _ (by omega) (by omega), u32_or_nat _ _ (by omega) (by omega), nat_join 16 _ _ (by omega) (by omega), u32_or_nat _ _ (by omega) (by omega), nat_join 8 _ _ (by omega) (by omega)]
  omega

set_option maxRecDepth 100000 in
set_option maxHeartbeats 2000000 in
theorem spread_any (x : Nat → Int) (hx : ∀ i, 0 ≤ x i ∧ x i ≤ 255) (w : World) :
    Calls Tryd.prog 80 #[.agg (arr 64 (bys x))] w fun e w' => e = .returned (.agg (arr 64 fun i => .int .u32 (W x i))) ∧ Below w.heap.size w w' := by
  have HX := Lib.hid hx
  clear hx
  go_enter Tryd.func80, Tryd.ntmps80
  go_wp2
  go_loopg [10] 16 (fun k i wr => ∃ j : Nat, j + k = 16 ∧ i = .int .i64 (j : Int) ∧ Below w.heap.size w wr ∧ HasAt w.heap.size 107 64 (bys x) wr ∧ HasAt (w.heap.size + 1) 87 64 (fun _ => .int .u32 0) wr ∧
    HasAt (w.heap.size + 1 + 1) 87 64 (sofar x j) wr)
  case atStart =>
    refine ⟨0, by omega, rfl, ?_, ?_, ?_, ?_⟩
    · exact ((below_new w _).trans ((below_new _ _).mono (by simp))).trans ((below_new _ _).mono (by simp; omega))
    · exact ((HasAt.new w (bys x) 64 107).alloc _).alloc _
    · have h := HasAt.new (w.alloc (.cells (arr 64 (bys x)) 107)) (fun _ => .int .u32 0) 64 87
      have e : (w.alloc (.cells (arr 64 (bys x)) 107)).heap.size = w.heap.size + 1 := by simp
      rw [e] at h
      exact h.alloc _
    · have h := HasAt.new ((w.alloc (.cells (arr 64 (bys x)) 107)).alloc (.cells (arr 64 (fun _ => .int .u32 0)) 87)) (fun _ => .int .u32 0) 64 87
      have e : ((w.alloc (.cells (arr 64 (bys x)) 107)).alloc (.cells (arr 64 (fun _ => .int .u32 0)) 87)).heap.size = w.heap.size + 1 + 1 := by simp
      rw [e] at h
      exact h
  case round =>
    obtain ⟨j, hj, rfl, hb, hA, hB, hC⟩ := hrel
    obtain ⟨kk, rfl⟩ : ∃ kk : Nat, kk = gk := ⟨_, rfl⟩
    by_cases hlt : j < 16
    · have b0 := HX.out (4 * j)
      have b1 := HX.out (4 * j + 1)
      have b2 := HX.out (4 * j + 2)
      have b3 := HX.out (4 * j + 3)
      go_upto_region 5 with fail
      refine wp_region_still_tail 31 (by kernel_rfl) (by kernel_rfl) ?_
      simp only [List.take_succ_cons, List.take_zero, List.drop_succ_cons, List.drop_zero]
      change wpStill _ _ wr.drew (fun a' => wpList _ _ _ _ a' wr.drew) _ _
      have HH : Hid (Below w.heap.size w wr.drew ∧ HasAt w.heap.size 107 64 (bys x) wr.drew ∧ HasAt (w.heap.size + 1) 87 64 (fun _ => .int .u32 0) wr.drew ∧ HasAt (w.heap.size + 1 + 1) 87 64 (sofar x j) wr.drew) := Lib.hid ⟨hb.drew, hA.drew, hB.drew, hC.drew⟩
      clear hb hA hB hC
      generalize wr.drew = wd at *
      have c0 : wd.cell? ⟨w.heap.size, 4 * j, none⟩ = some (.int .u8 (x (4 * j))) := HH.out.2.1.cell (4 * j) (by omega)
      have c1 : wd.cell? ⟨w.heap.size, 4 * j + 1, none⟩ = some (.int .u8 (x (4 * j + 1))) := HH.out.2.1.cell (4 * j + 1) (by omega)
      have c2 : wd.cell? ⟨w.heap.size, 4 * j + 2, none⟩ = some (.int .u8 (x (4 * j + 2))) := HH.out.2.1.cell (4 * j + 2) (by omega)
      have c3 : wd.cell? ⟨w.heap.size, 4 * j + 3, none⟩ = some (.int .u8 (x (4 * j + 3))) := HH.out.2.1.cell (4 * j + 3) (by omega)
      have c4 : wd.cell? ⟨w.heap.size + 1 + 1, j, none⟩ = some (sofar x j j) := HH.out.2.2.2.cell j (by omega)
      have f4 := HH.out.2.2.2.free j
      have HE := Lib.hid (be_or _ _ _ _ b0 b1 b2 b3)
      have u1 : (0 : Int) ≤ ↑j := by omega
      have u2 : (↑j : Int) < 64 := by omega
      have z1 : IntKind.i64.wrap (4 * ↑j) = 4 * ↑j := IntWalk.i64_in _ (by omega)
      have z2 : IntKind.i64.wrap (4 * ↑j + 1) = 4 * ↑j + 1 := IntWalk.i64_in _ (by omega)
      have z3 : IntKind.i64.wrap (4 * ↑j + 2) = 4 * ↑j + 2 := IntWalk.i64_in _ (by omega)
      have z4 : IntKind.i64.wrap (4 * ↑j + 3) = 4 * ↑j + 3 := IntWalk.i64_in _ (by omega)
      have t1 : (4 * (↑j : Int)).toNat = 4 * j := by omega
      have t2 : (4 * (↑j : Int) + 1).toNat = 4 * j + 1 := by omega
      have t3 : (4 * (↑j : Int) + 2).toNat = 4 * j + 2 := by omega
      have t4 : (4 * (↑j : Int) + 3).toNat = 4 * j + 3 := by omega
      have g1 : (0 : Int) ≤ 4 * ↑j ∧ 4 * (↑j : Int) < 64 := by omega
      have g2 : (0 : Int) ≤ 4 * ↑j + 1 ∧ 4 * (↑j : Int) + 1 < 64 := by omega
      have g3 : (0 : Int) ≤ 4 * ↑j + 2 ∧ 4 * (↑j : Int) + 2 < 64 := by omega
      have g4 : (0 : Int) ≤ 4 * ↑j + 3 ∧ 4 * (↑j : Int) + 3 < 64 := by omega
      have v0 : IntKind.u32.wrap (x (4 * j)) = x (4 * j) := IntWalk.u32_in _ (by omega)
      have v1 : IntKind.u32.wrap (x (4 * j + 1)) = x (4 * j + 1) := IntWalk.u32_in _ (by omega)
      have v2 : IntKind.u32.wrap (x (4 * j + 2)) = x (4 * j + 2) := IntWalk.u32_in _ (by omega)
      have v3 : IntKind.u32.wrap (x (4 * j + 3)) = x (4 * j + 3) := IntWalk.u32_in _ (by omega)
      repeat still_step
      refine wpStill_nil ?_
      go_wp2
      go_roundg (kk - 1)
      case measure => omega
      case rel =>
        refine ⟨j + 1, by omega, by go_num, HH.out.1.setCell (by simp; omega) _, HH.out.2.1.other _ _ (by simp; omega), HH.out.2.2.1.other _ _ (by simp), HH.out.2.2.2.set j _ (fun t _ => ?_)⟩
        rw [← sofar_step x j t, W_low x j hlt, HE.out]
        rfl
    · obtain rfl : j = 16 := by omega
      obtain ⟨wo, rfl⟩ : ∃ wo : World, wo = wr := ⟨_, rfl⟩
      have H0 := Lib.hid (And.intro hb (And.intro hA (And.intro hB hC)))
      clear hb hA hB hC
      go_wp2
      go_loopg [5] 48 (fun k i wr => ∃ j : Nat, j + k = 64 ∧ 16 ≤ j ∧ i = .int .i64 (j : Int) ∧ Below w.heap.size w wr ∧ HasAt w.heap.size 107 64 (bys x) wr ∧ HasAt (w.heap.size + 1) 87 64 (fun _ => .int .u32 0) wr ∧
        HasAt (w.heap.size + 1 + 1) 87 64 (sofar x j) wr)
      case atStart => exact ⟨16, by omega, by omega, rfl, H0.out⟩
      case round =>
        clear H0
        obtain ⟨j, hj, h16, rfl, hb, hA, hB, hC⟩ := hrel
        obtain ⟨kk, rfl⟩ : ∃ kk : Nat, kk = gk := ⟨_, rfl⟩
        by_cases hlt : j < 64
        · have c1 : wr.cell? ⟨w.heap.size + 1 + 1, j - 16, none⟩ = some (.int .u32 (W x (j - 16))) := by
            have h1 := hC.cell (j - 16) (by omega)
            rw [sofar_at _ _ _ (by omega)] at h1
            exact h1
          have c2 : wr.cell? ⟨w.heap.size + 1 + 1, j - 15, none⟩ = some (.int .u32 (W x (j - 15))) := by
            have h1 := hC.cell (j - 15) (by omega)
            rw [sofar_at _ _ _ (by omega)] at h1
            exact h1
          have c3 : wr.cell? ⟨w.heap.size + 1 + 1, j - 7, none⟩ = some (.int .u32 (W x (j - 7))) := by
            have h1 := hC.cell (j - 7) (by omega)
            rw [sofar_at _ _ _ (by omega)] at h1
            exact h1
          have c4 : wr.cell? ⟨w.heap.size + 1 + 1, j - 2, none⟩ = some (.int .u32 (W x (j - 2))) := by
            have h1 := hC.cell (j - 2) (by omega)
            rw [sofar_at _ _ _ (by omega)] at h1
            exact h1
          have c5 : wr.cell? ⟨w.heap.size + 1 + 1, j, none⟩ = some (sofar x j j) := hC.cell j (by omega)
          have f1 := hC.free j
          have i15 := W_in x HX.out (j - 15)
          have i2 := W_in x HX.out (j - 2)
          have HI := Lib.hid (And.intro i15 i2)
          have H := Lib.hid (And.intro hb (And.intro hA (And.intro hB hC)))
          clear hb hA hB hC i15 i2
          go_upto_region 10 with fail
          go_cut [6, 7] (fun s6 s7 wx => s6 = .int .u32 (W x (j - 15)) ∧ s7 = .int .u32 (W x (j - 2)) ∧ ∃ nq, wx = wr.drewN nq)
          case first =>
            go_quiet (fail)
            go_wp2_with fail
            go_meet
            exact ⟨rfl, rfl, _, rfl⟩
          case rest =>
            obtain ⟨rfl, rfl, nq, rfl⟩ := hcut
            go_upto_region 13 with (first
              | (go_at_call 81; first
                  | ((with_reducible refine (rotL7 _ HI.out.1 _).mono ?_); rintro e w' ⟨rfl, rfl⟩)
                  | ((with_reducible refine (rotL18 _ HI.out.1 _).mono ?_); rintro e w' ⟨rfl, rfl⟩)
                  | ((with_reducible refine (rotL17 _ HI.out.2 _).mono ?_); rintro e w' ⟨rfl, rfl⟩)
                  | ((with_reducible refine (rotL19 _ HI.out.2 _).mono ?_); rintro e w' ⟨rfl, rfl⟩)))
            have d1 : ∀ a, ((wr.drewN nq).drew).cell? a = wr.cell? a := fun _ => rfl
            have d2 : ∀ a, ((wr.drewN nq).drew).frozen? a = wr.frozen? a := fun _ => rfl
            have HH : Hid (Below w.heap.size w ((wr.drewN nq).drew) ∧ HasAt w.heap.size 107 64 (bys x) ((wr.drewN nq).drew) ∧ HasAt (w.heap.size + 1) 87 64 (fun _ => .int .u32 0) ((wr.drewN nq).drew) ∧ HasAt (w.heap.size + 1 + 1) 87 64 (sofar x j) ((wr.drewN nq).drew)) :=
              Lib.hid ⟨⟨H.out.1.os, H.out.1.tape, H.out.1.output, H.out.1.size, H.out.1.block⟩, H.out.2.1, H.out.2.2.1, H.out.2.2.2⟩
            refine wp_region_still_tail 15 (by kernel_rfl) (by kernel_rfl) ?_
            simp only [List.take_succ_cons, List.take_zero, List.drop_succ_cons, List.drop_zero]
            change wpStill _ _ (wr.drewN nq).drew (fun a' => wpList _ _ _ _ a' (wr.drewN nq).drew) _ _
            clear H
            generalize (wr.drewN nq).drew = wd at *
            have c1' := (d1 _).trans c1
            have c3' := (d1 _).trans c3
            have c5' := (d1 _).trans c5
            have f1' := (d2 _).trans f1
            clear d1 d2 c1 c2 c3 c4 c5 f1
            have u1 : (7 : Int) ≤ ↑j := by omega
            have u2 : (16 : Int) ≤ ↑j := by omega
            have u3 : (↑j : Int) < 64 := by omega
            have u4 : (0 : Int) ≤ ↑j := by omega
            have z1 : IntKind.i64.wrap (↑j - 16) = ↑j - 16 := IntWalk.i64_in _ (by omega)
            have z2 : (0 : Int) ≤ ↑j - 16 := by omega
            have z3 : (↑j : Int) - 16 < 64 := by omega
            have z4 : ((↑j : Int) - 16).toNat = j - 16 := by omega
            have y1 : IntKind.i64.wrap (↑j - 7) = ↑j - 7 := IntWalk.i64_in _ (by omega)
            have y2 : (0 : Int) ≤ ↑j - 7 := by omega
            have y3 : (↑j : Int) - 7 < 64 := by omega
            have y4 : ((↑j : Int) - 7).toNat = j - 7 := by omega
            repeat still_step
            refine wpStill_nil ?_
            go_wp2
            go_roundg (kk - 1)
            case measure => omega
            case rel =>
              refine ⟨j + 1, by omega, by omega, by go_num, HH.out.1.setCell (by simp; omega) _, HH.out.2.1.other _ _ (by simp; omega), HH.out.2.2.1.other _ _ (by simp), HH.out.2.2.2.set j _ (fun t _ => ?_)⟩
              rw [← sofar_step x j t, W_high x j (by omega)]
              rfl
        · obtain rfl : j = 64 := by omega
          have hS : ∀ t, t < 64 → sofar x 64 t = .int .u32 (W x t) := fun t ht => sofar_at x 64 t ht
          have hC' := hC.to hS
          have H := Lib.hid (And.intro hb (And.intro hB hC'))
          clear hb hA hB hC hS hC'
          go_wp2_with (first
            | (with_reducible refine wpList_load_all rfl 87 (.tmp 3) rfl (w.heap.size + 1 + 1) 64 rfl 87 _ H.out.2.2 _ Tryd.underlying87 rfl (by kernel_rfl) ?_)
            | (with_reducible refine wpList_store_all rfl 87 (.tmp 2) (.tmp 88) rfl (w.heap.size + 1) 64 rfl 87 _ _ H.out.2.1 rfl (by kernel_rfl) (fun _ => rfl) ?_; intro w2 hh ho))
          refine bodyPost_ret (v := .agg (arr 64 fun i => .int .u32 (W x i))) (results_cell_row (fn := Tryd.f80) rfl _ _ (w.heap.size + 1) 87 _ (0, 0) _ rfl hh Tryd.underlying87 rfl (by rw [arr_size]; kernel_rfl)) rfl ⟨rfl, ?_⟩
          exact H.out.1.trans (ho.below (by omega) H.out.1.size)
end Go.Proofs.YtghjgkgfpblijaaDoor.S
