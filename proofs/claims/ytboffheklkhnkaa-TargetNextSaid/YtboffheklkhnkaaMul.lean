/- The program's product of two numbers of 256 bits: it returns the product (modulo 2^256) and whether it goes over; what lay in memory stays. -/
import Derived.Test.YtboffheklkhnkaaMulAdd
import Derived.Test.YtboffheklkhnkaaEnv
namespace Go.Proofs.Ytboffheklkhnkaa
open Go.RowKit Go.Lib
attribute [local go_sem ↓] Go.wp_at_zero Go.wp_at_succ

/-- Words by a function as cells. -/
def cl (f : Nat → Nat) : Nat → Value := fun i => .int .u64 ((f i : Nat) : Int)
/-- The blocks of a product. -/
structure Prd (w : World) (b : Nat) (f : Nat → Nat) (wr : World) : Prop where
  below : Below w.heap.size w wr
  right : HasAt (w.heap.size + 1) 24 4 (wl b) wr
  res : HasAt (w.heap.size + 1 + 1) 24 4 (wl 0) wr
  full : HasAt (w.heap.size + 1 + 1 + 1) 61 8 (cl f) wr
theorem Prd.step {w wr : World} {b : Nat} {f : Nat → Nat} (h : Prd w b f wr) (k v : Nat) : Prd w b (updN f k v) (wr.setCell ⟨w.heap.size + 1 + 1 + 1, k, none⟩ (.int .u64 ((v : Nat) : Int))) :=
  ⟨h.below.setCell (by simp; omega) _, h.right.other _ _ (by simp), h.res.other _ _ (by simp), h.full.set k _ fun i _ => by
    unfold upd cl updN
    split <;> rfl⟩
theorem z8_is : arr 8 (cl fun _ => 0) = #[.int .u64 0, .int .u64 0, .int .u64 0, .int .u64 0, .int .u64 0, .int .u64 0, .int .u64 0, .int .u64 0] := by kernel_rfl
theorem Prd.start (w : World) (a b : Nat) : Prd w b (fun _ => 0) ((((w.alloc (.cells (arr 4 (wl a)) 24)).alloc (.cells (arr 4 (wl b)) 24)).alloc (.cells z4 24)).alloc (.cells #[.int .u64 0, .int .u64 0, .int .u64 0, .int .u64 0, .int .u64 0, .int .u64 0, .int .u64 0, .int .u64 0] 61)) := by
  rw [← z8_is]
  have E := ((Env.box1 w (wl a)).next (b := w.heap.size + 1) (by simp) (wl b)).nextz (b := w.heap.size + 1 + 1) (by simp)
  have s3 : (((w.alloc (.cells (arr 4 (wl a)) 24)).alloc (.cells (arr 4 (wl b)) 24)).alloc (.cells z4 24)).heap.size = w.heap.size + 1 + 1 + 1 := by simp
  generalize ((w.alloc (.cells (arr 4 (wl a)) 24)).alloc (.cells (arr 4 (wl b)) 24)).alloc (.cells z4 24) = w3 at *
  refine ⟨E.below.trans ((below_new _ _).mono (by omega)), (E.get (b := w.heap.size + 1) (f := wl b) (List.mem_cons_of_mem _ List.mem_cons_self)).alloc _, (E.get (b := w.heap.size + 1 + 1) (f := wl 0) List.mem_cons_self).alloc _, ?_⟩
  have h := HasAt.new w3 (cl fun _ => 0) 8 61
  rw [s3] at h
  exact h
theorem limb_high (n i : Nat) : limb n (i + 4) = limb (n / P256) i := by
  unfold limb
  rw [Nat.div_div_eq_div_mul, P256_is, ← Nat.pow_add]
  congr 3
  omega
theorem store4 {b N : Nat} {f : Nat → Value} {w : World} (h : HasAt b 24 4 f w) :
    HasAt b 24 4 (wl N) ((((w.setCell ⟨b, 0, none⟩ (.int .u64 ((limb N 0 : Nat) : Int))).setCell ⟨b, 1, none⟩ (.int .u64 ((limb N 1 : Nat) : Int))).setCell ⟨b, 2, none⟩ (.int .u64 ((limb N 2 : Nat) : Int))).setCell ⟨b, 3, none⟩ (.int .u64 ((limb N 3 : Nat) : Int))).drew ∧
    Only b w ((((w.setCell ⟨b, 0, none⟩ (.int .u64 ((limb N 0 : Nat) : Int))).setCell ⟨b, 1, none⟩ (.int .u64 ((limb N 1 : Nat) : Int))).setCell ⟨b, 2, none⟩ (.int .u64 ((limb N 2 : Nat) : Int))).setCell ⟨b, 3, none⟩ (.int .u64 ((limb N 3 : Nat) : Int))).drew := by
  refine ⟨((((h.set 0 _ fun _ _ => rfl).set 1 _ fun _ _ => rfl).set 2 _ fun _ _ => rfl).set 3 _ fun i hi => ?_).drew, ((((((Only.refl b w).setCell _ rfl _).setCell _ rfl _).setCell _ rfl _).setCell _ rfl _)).drew⟩
  unfold upd wl
  match i, hi with
  | 0, _ => rfl
  | 1, _ => rfl
  | 2, _ => rfl
  | 3, _ => rfl
theorem run_index4 (a k : Nat) (hk : k < 4) (w : World) : (Instr.index 24 (.agg (arr 4 (wl a))) (.int .i64 (k : Int))).run Try.prog w = .ok (.int .u64 ((limb a k : Nat) : Int)) w := by
  match k, hk with
  | 0, _ => exact (by kernel_rfl : (Instr.index 24 (.agg (arr 4 (wl a))) (.int .i64 0)).run Try.prog w = .ok (.int .u64 ((limb a 0 : Nat) : Int)) w)
  | 1, _ => exact (by kernel_rfl : (Instr.index 24 (.agg (arr 4 (wl a))) (.int .i64 1)).run Try.prog w = .ok (.int .u64 ((limb a 1 : Nat) : Int)) w)
  | 2, _ => exact (by kernel_rfl : (Instr.index 24 (.agg (arr 4 (wl a))) (.int .i64 2)).run Try.prog w = .ok (.int .u64 ((limb a 2 : Nat) : Int)) w)
  | 3, _ => exact (by kernel_rfl : (Instr.index 24 (.agg (arr 4 (wl a))) (.int .i64 3)).run Try.prog w = .ok (.int .u64 ((limb a 3 : Nat) : Int)) w)

set_option maxRecDepth 100000 in
set_option maxHeartbeats 4000000 in
theorem mul_any (a b : Nat) (ha : a < P256) (hb : b < P256) (w : World) :
    Calls Try.prog 25 #[wide a, wide b] w fun e w' => e = .returned (.tuple #[wide (a * b), .bool (decide (P256 ≤ a * b))]) ∧ Below w.heap.size w w' := by
  have HAB := Lib.hid (And.intro ha hb)
  have hA := (HasAt.new w (wl a) 4 24)
  have PS := Lib.hid (Prd.start w a b)
  have HA := Lib.hid (((hA.alloc (.cells (arr 4 (wl b)) 24)).alloc (.cells z4 24)).alloc (.cells #[.int .u64 0, .int .u64 0, .int .u64 0, .int .u64 0, .int .u64 0, .int .u64 0, .int .u64 0, .int .u64 0] 61))
  clear ha hb hA
  obtain ⟨N, hN⟩ : ∃ N, N = a * b := ⟨_, rfl⟩
  rw [← hN]
  have HN := Lib.hid hN
  clear hN
  go_enter Try.func25, Try.ntmps25
  go_wp2_with (with_reducible refine wpList_load_all rfl 24 (.tmp 2) rfl w.heap.size 4 rfl 24 (wl a) HA.out _ Try.underlying24 rfl (by kernel_rfl) ?_)
  go_loopg [13] 4 (fun k ix wr => ∃ (i : Nat) (f : Nat → Nat), i + k = 4 ∧ ix = .int .i64 (i : Int) ∧ Part a b i 0 f 0 ∧ Prd w b f wr)
  case atStart => exact ⟨0, _, by omega, rfl, Part.start a b, PS.out⟩
  case round =>
    obtain ⟨i, f, hi, rfl, hp, hP⟩ := hrel
    obtain ⟨kk, rfl⟩ : ∃ kk : Nat, kk = gk := ⟨_, rfl⟩
    obtain ⟨wo, rfl⟩ : ∃ wo : World, wo = wr := ⟨_, rfl⟩
    by_cases hlt : i < 4
    · have ix := run_index4 a i hlt
      have H := Lib.hid hP
      have HPt := Lib.hid hp
      clear hP hp HA PS
      go_wp2_with (with_reducible refine wpList_load_all rfl 24 (.tmp 3) rfl (w.heap.size + 1) 4 rfl 24 (wl b) H.out.right _ Try.underlying24 rfl (by kernel_rfl) ?_)
      go_loopg [9, 18] 4 (fun k c jx wr => ∃ (j : Nat) (f : Nat → Nat) (d : Nat), j + k = 4 ∧ jx = .int .i64 (j : Int) ∧ c = .int .u64 ((d : Nat) : Int) ∧ Part a b i j f d ∧ Prd w b f wr)
      case atStart => exact ⟨0, f, 0, by omega, rfl, rfl, HPt.out, H.out⟩
      case round =>
        clear H HPt ix
        obtain ⟨j, f, d, hj, rfl, rfl, hp, hP⟩ := hrel
        obtain ⟨kj, rfl⟩ : ∃ kj : Nat, kj = gk := ⟨_, rfl⟩
        by_cases hjt : j < 4
        · have ix := run_index4 b j hjt
          have c0 := hP.full.cell (i + j) (by omega)
          have f0 := hP.full.free (i + j)
          have M := Lib.hid (muladd_any (limb a i) (limb b j) (f (i + j)) d (limb_lt a i) (limb_lt b j) (hp.lt (i + j)) hp.carry)
          have hs := hp.step hlt hjt
          have hPs := hP.step (i + j) ((limb a i * limb b j + f (i + j) + d) % 18446744073709551616)
          unfold cl at c0
          obtain ⟨r, hr⟩ : ∃ r, r = limb a i * limb b j + f (i + j) + d := ⟨_, rfl⟩
          rw [← hr] at M hs hPs
          obtain ⟨lo, hlo⟩ : ∃ lo, lo = r % 18446744073709551616 := ⟨_, rfl⟩
          obtain ⟨hh, hhh⟩ : ∃ hh, hh = r / 18446744073709551616 := ⟨_, rfl⟩
          rw [← hlo, ← hhh] at M hs
          rw [← hlo] at hPs
          have HS := Lib.hid hs
          have HPs := Lib.hid hPs
          clear hr hlo hhh hs hPs hp hP
          go_wp2_with (go_at_call 58; refine (M.out _).mono ?_; rintro e w' ⟨rfl, rfl⟩)
          go_roundg (kj - 1)
          case measure => omega
          case rel => exact ⟨j + 1, _, hh, by omega, by go_num, rfl, HS.out, HPs.out⟩
        · obtain rfl : j = 4 := by omega
          have c0 := hP.full.cell (i + 4) (by omega)
          have f0 := hP.full.free (i + 4)
          have hs := hp.next HAB.out.2 hlt
          have hPs := hP.step (i + 4) d
          unfold cl at c0
          have HS := Lib.hid hs
          have HPs := Lib.hid hPs
          clear hs hPs hp hP
          go_wp2
          go_roundg (kk - 1)
          case measure => omega
          case rel => exact ⟨i + 1, _, by omega, by go_num, HS.out, HPs.out⟩
    · obtain rfl : i = 4 := by omega
      have hd := hp.done HAB.out.1
      have hcell : ∀ k, k < 8 → wo.cell? ⟨w.heap.size + 1 + 1 + 1, k, none⟩ = some (.int .u64 ((limb (a * b) k : Nat) : Int)) := fun k hk => by rw [← hd k hk]; exact hP.full.cell k hk
      have hlt2 : a * b < P256 * P256 := Nat.mul_lt_mul'' HAB.out.1 HAB.out.2
      have hH : a * b / P256 < P256 := by rw [Nat.div_lt_iff_lt_mul (by decide)]; exact hlt2
      have hq : (P256 ≤ a * b) = ¬ (a * b / P256 = 0) := by
        rw [eq_iff_iff, Nat.div_eq_zero_iff]
        have : P256 ≠ 0 := by decide
        omega
      have hcell2 : ∀ k, wo.cell? ⟨w.heap.size + 1 + 1 + 1, k + 4, none⟩ = some (.int .u64 ((limb (a * b / P256) k : Nat) : Int)) ∨ 4 ≤ k := fun k => by
        rcases Nat.lt_or_ge k 4 with q | q
        · rw [hcell (k + 4) (by omega), limb_high]; exact .inl rfl
        · exact .inr q
      have eqf := eq_wide (a * b / P256) 0 hH (by decide)
      have HQ : Hid (decide (P256 ≤ a * b) = !decide (a * b / P256 = 0)) := Lib.hid (by simp only [hq]; by_cases h : a * b / P256 = 0 <;> simp [h])
      clear hq hlt2 hH hd
      obtain ⟨T, hT⟩ : ∃ T, T = a * b / P256 := ⟨_, rfl⟩
      rw [← hT] at hcell2 eqf HQ
      rw [← HN.out] at hcell HQ
      clear hT
      have c0 := hcell 0 (by omega)
      have c1 := hcell 1 (by omega)
      have c2 := hcell 2 (by omega)
      have c3 := hcell 3 (by omega)
      have c4 := (hcell2 0).resolve_right (by omega)
      have c5 := (hcell2 1).resolve_right (by omega)
      have c6 := (hcell2 2).resolve_right (by omega)
      have c7 := (hcell2 3).resolve_right (by omega)
      simp only [Nat.zero_add] at c4
      have r0 := hP.res.cell 0 (by omega)
      have r1 := hP.res.cell 1 (by omega)
      have r2 := hP.res.cell 2 (by omega)
      have r3 := hP.res.cell 3 (by omega)
      have f0 := hP.res.free 0
      have f1 := hP.res.free 1
      have f2 := hP.res.free 2
      have f3 := hP.res.free 3
      have H := Lib.hid hP
      have eqg : ∀ w, (Op.equalIn 10000 24 (.agg #[.int .u64 ((limb T 0 : Nat) : Int), .int .u64 ((limb T 1 : Nat) : Int), .int .u64 ((limb T 2 : Nat) : Int), .int .u64 ((limb T 3 : Nat) : Int)]) (.agg #[.int .u64 0, .int .u64 0, .int .u64 0, .int .u64 0])).run Try.prog w = .ok (decide (T = 0)) w := eqf
      clear hcell hcell2 eqf hP hp PS HA
      have s1 : ∀ w2, (Instr.arrayAt 24 (.slice (some ⟨w.heap.size + 1 + 1 + 1, 0, none⟩) 4 8)).run Try.prog w2 = .ok (.pointer (some ⟨w.heap.size + 1 + 1 + 1, 0, none⟩)) w2 := fun _ => by kernel_rfl
      have s2 : ∀ w2, (Instr.arrayAt 24 (.slice (some ⟨w.heap.size + 1 + 1 + 1, 4, none⟩) 4 4)).run Try.prog w2 = .ok (.pointer (some ⟨w.heap.size + 1 + 1 + 1, 4, none⟩)) w2 := fun _ => by kernel_rfl
      go_upto_region 13 with fail
      go_region
      all_goals
        obtain ⟨hh, ho⟩ := store4 (N := N) H.out.res
        have HH := Lib.hid (And.intro hh ho)
        clear hh ho
        generalize ((((wo.setCell ⟨w.heap.size + 1 + 1, 0, none⟩ (.int .u64 ((limb N 0 : Nat) : Int))).setCell ⟨w.heap.size + 1 + 1, 1, none⟩ (.int .u64 ((limb N 1 : Nat) : Int))).setCell ⟨w.heap.size + 1 + 1, 2, none⟩ (.int .u64 ((limb N 2 : Nat) : Int))).setCell ⟨w.heap.size + 1 + 1, 3, none⟩ (.int .u64 ((limb N 3 : Nat) : Int))).drew = wz at *
        rw [← HQ.out]
        go_wp2_with fail
        exact bodyPost_ret (res_row_tmp (fn := Try.f25) rfl _ _ (w.heap.size + 1 + 1) 4 24 _ _ rfl HH.out.1 Try.underlying24 rfl (by kernel_rfl)) rfl ⟨rfl, H.out.below.trans (HH.out.2.below (by omega) H.out.below.size)⟩
end Go.Proofs.Ytboffheklkhnkaa
