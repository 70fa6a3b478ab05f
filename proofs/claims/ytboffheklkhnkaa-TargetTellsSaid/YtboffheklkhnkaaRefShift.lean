/- The document's shifts, bit by bit: they return the product with, and the quotient by, a power of 2; what lay in memory stays. -/
import Derived.Test.YtboffheklkhnkaaEnv
import Derived.Test.YtboffheklkhnkaaHeld
namespace Go.Proofs.Ytboffheklkhnkaa
open Go.RowKit Go.Lib
attribute [local go_sem ↓] Go.wp_at_zero Go.wp_at_succ

/-- Three blocks of four words behind what w had: a number, the result, what is made. -/
structure Tri (w : World) (f0 f1 f2 : Nat → Value) (wr : World) : Prop where
  below : Below w.heap.size w wr
  b0 : HasAt w.heap.size 24 4 f0 wr
  b1 : HasAt (w.heap.size + 1) 24 4 f1 wr
  b2 : HasAt (w.heap.size + 1 + 1) 24 4 f2 wr
section
variable {w wr w' : World} {f0 f1 f2 g : Nat → Value}
theorem Tri.start (w : World) (a : Nat) : Tri w (wl a) (wl 0) (wl 0) (((w.alloc (.cells (arr 4 (wl a)) 24)).alloc (.cells z4 24)).alloc (.cells z4 24)) := by
  have E := ((Env.box1 w (wl a)).nextz (b := w.heap.size + 1) (by simp)).nextz (b := w.heap.size + 1 + 1) (by simp)
  exact ⟨E.below, E.get (List.mem_cons_of_mem _ (List.mem_cons_of_mem _ List.mem_cons_self)), E.get (List.mem_cons_of_mem _ List.mem_cons_self), E.get List.mem_cons_self⟩
theorem Tri.drew (h : Tri w f0 f1 f2 wr) : Tri w f0 f1 f2 wr.drew := ⟨h.below.drew, h.b0.drew, h.b1.drew, h.b2.drew⟩
theorem Tri.step (h : Tri w f0 f1 f2 wr) (hb : Below wr.heap.size wr w') : Tri w f0 f1 f2 w' := ⟨h.below.trans (hb.mono h.below.size), h.b0.below hb, h.b1.below hb, h.b2.below hb⟩
theorem Tri.set2 (h : Tri w f0 f1 f2 wr) (j : Nat) (v : Value) (e : ∀ i, i < 4 → upd f2 j v i = g i) : Tri w f0 f1 g (wr.setCell ⟨w.heap.size + 1 + 1, j, none⟩ v) :=
  ⟨h.below.setCell (by simp; omega) _, h.b0.other _ _ (by simp; omega), h.b1.other _ _ (by simp), h.b2.set j _ e⟩
end
theorem wide_lit4 (n : Nat) : wide n = .agg #[.int .u64 ((limb n 0 : Nat) : Int), .int .u64 ((limb n 1 : Nat) : Int), .int .u64 ((limb n 2 : Nat) : Int), .int .u64 ((limb n 3 : Nat) : Int)] := rfl

/-- A count, held between 0 and 256. -/
def held (n : Int) : Nat := min n.toNat 256
theorem held_le (n : Int) : held n ≤ 256 := by unfold held; omega
theorem held_int (n : Int) : (if 256 < if n < 0 then 0 else n then 256 else if n < 0 then 0 else n) = ((held n : Nat) : Int) := by
  unfold held
  by_cases h : n < 0
  · simp only [if_pos h]; omega
  · simp only [if_neg h]
    by_cases h2 : 256 < n
    · rw [if_pos h2]; omega
    · rw [if_neg h2]; omega
theorem shl_bit (a m i : Nat) (hi : m ≤ i) : (a * 2 ^ m) / 2 ^ i % 2 = a / 2 ^ (i - m) % 2 := by
  have e : 2 ^ i = 2 ^ m * 2 ^ (i - m) := by rw [← Nat.pow_add]; congr 1; omega
  rw [e, ← Nat.div_div_eq_div_mul, Nat.mul_div_cancel _ (Nat.two_pow_pos m)]
theorem shl_step (a m i : Nat) (hi : m ≤ i) : (a * 2 ^ m) % 2 ^ (i + 1) = (a * 2 ^ m) % 2 ^ i ||| (a / 2 ^ (i - m) % 2) * 2 ^ i := by
  rw [mod_bit, add_or (Nat.mod_lt _ (Nat.two_pow_pos _)), shl_bit a m i hi]
theorem or_shl_int (n x k : Nat) (hx : x < 2) : bits .or .u64 ((limb n (k / 64) : Nat) : Int) (IntKind.u64.wrap ((x : Int) * 2 ^ (k % 64))) = ((limb n (k / 64) ||| x * 2 ^ (k % 64) : Nat) : Int) := or_bit_int n x k hx

set_option maxRecDepth 100000 in
set_option maxHeartbeats 4000000 in
theorem ref_left_any (a : Nat) (n : Int) (w : World) :
    Calls Try.prog 32 #[wide a, .int .i64 n] w fun e w' => e = .returned (wide (a * 2 ^ held n)) ∧ Below w.heap.size w w' := by
  have hm := held_le n
  have hi := held_int n
  obtain ⟨m, hmm⟩ : ∃ m, m = held n := ⟨_, rfl⟩
  rw [← hmm] at hm hi
  rw [← hmm]
  have HI := Lib.hid hi
  obtain ⟨R, hR⟩ : ∃ R, R = a * 2 ^ m := ⟨_, rfl⟩
  rw [← hR]
  have HR := Lib.hid hR
  have T := Lib.hid (Tri.start w a)
  clear hmm hi hR
  go_enter Try.func32, Try.ntmps32
  go_upto_region 3 with fail
  rw [HI.out]
  generalize (if n < 0 then (0 : Int) else n) = z
  go_wp2
  obtain ⟨gg, hgg⟩ : ∃ gg : Nat, m + gg = 256 := ⟨256 - m, by omega⟩
  go_loopg [6] gg (fun k i wr => ∃ j : Nat, j + k = 256 ∧ m ≤ j ∧ i = .int .i64 (j : Int) ∧ Tri w (wl a) (wl 0) (wl (R % 2 ^ j)) wr)
  case atStart =>
    refine ⟨m, by omega, Nat.le_refl _, rfl, ?_⟩
    rw [HR.out, Nat.mul_mod_left]
    exact T.out
  case round =>
    clear T
    obtain ⟨j, hj, hmj, rfl, hT⟩ := hrel
    obtain ⟨kk, rfl⟩ : ∃ kk : Nat, kk = gk := ⟨_, rfl⟩
    by_cases hlt : j < 256
    · have e1 := shl_step a m j hmj
      rw [← HR.out] at e1
      have hx2 : a / 2 ^ (j - m) % 2 < 2 := Nat.mod_lt _ (by decide)
      have HB0 := bit_any a (j - m) (by omega)
      obtain ⟨x, hx⟩ : ∃ x, x = a / 2 ^ (j - m) % 2 := ⟨_, rfl⟩
      rw [← hx] at e1 hx2 HB0
      obtain ⟨s, hs⟩ : ∃ s : Nat, s = j - m := ⟨_, rfl⟩
      rw [← hs] at HB0
      have es : (j : Int) - (m : Int) = (s : Int) := by omega
      have HB : Hid (∀ W, Calls Try.prog 55 #[.agg #[.int .u64 ((limb a 0 : Nat) : Int), .int .u64 ((limb a 1 : Nat) : Int), .int .u64 ((limb a 2 : Nat) : Int), .int .u64 ((limb a 3 : Nat) : Int)], .int .i64 (s : Int)] W fun e w' => e = .returned (.int .u64 ((x : Nat) : Int)) ∧ Below W.heap.size W w') := Lib.hid HB0
      have ws : IntKind.i64.wrap ((j : Int) - (m : Int)) = (s : Int) := by rw [es]; exact IntWalk.i64_in _ (by omega)
      have E1 := Lib.hid e1
      have EO := Lib.hid (or_shl_int (R % 2 ^ j) x j hx2)
      have H := Lib.hid hT
      have c0 := hT.b2.cell (j / 64) (by omega)
      have a0 := hT.b0.cell 0 (by omega)
      have a1 := hT.b0.cell 1 (by omega)
      have a2 := hT.b0.cell 2 (by omega)
      have a3 := hT.b0.cell 3 (by omega)
      unfold wl at c0 a0 a1 a2 a3
      clear hx hs e1 HB0 hT es
      have q1 : (j : Int).tdiv 64 = (j : Int) / 64 := Int.tdiv_eq_ediv_of_nonneg (by omega)
      have q2 : IntKind.i64.wrap ((j : Int) / 64) = (j : Int) / 64 := IntWalk.i64_in _ (by omega)
      have q3 : (j : Int).tmod 64 = (j : Int) % 64 := Int.tmod_eq_emod_of_nonneg (by omega)
      have u1 : (0 : Int) ≤ (j : Int) / 64 ∧ (j : Int) / 64 < 4 := by omega
      have u3 : ((j : Int) / 64).toNat = j / 64 := by omega
      have u4 : ¬ (j : Int) % 64 < 0 := by omega
      have u5 : ((j : Int) % 64).toNat = j % 64 := by omega
      go_upto_region 6 with fail
      go_region_with (go_at_call 55; refine (HB.out _).mono ?_; rintro e w1 ⟨rfl, hb⟩; have H1 := Lib.hid (H.out.drew.step hb); have c1 : w1.cell? ⟨w.heap.size + 1 + 1, j / 64, none⟩ = some (.int .u64 ((limb (R % 2 ^ j) (j / 64) : Nat) : Int)) := H1.out.b2.cell (j / 64) (by omega); have f1 := H1.out.b2.free (j / 64); clear hb)
      all_goals
        rw [EO.out]
        have HG := H1.out.set2 (j / 64) (.int .u64 ((limb (R % 2 ^ j) (j / 64) ||| x * 2 ^ (j % 64) : Nat) : Int)) fun i _ => wl_or_bit (R % 2 ^ j) x j hx2 i
        rw [← E1.out] at HG
        have G := Lib.hid HG
        clear HG H1 H c0 c1 f1 a0 a1 a2 a3 q1 q2 q3 u1 u3 u4 u5 ws
        go_wp2
        go_roundg (kk - 1)
        case measure => omega
        case rel => exact ⟨j + 1, by omega, by omega, by go_num, G.out⟩
    · obtain rfl : j = 256 := by omega
      have hb2 := hT.b2
      rw [show R % 2 ^ 256 = R % P256 from rfl] at hb2
      have H := Lib.hid (And.intro hT.below (And.intro hT.b1 (hb2.to (fun i hi => wl_mod R i hi))))
      clear hT hb2
      go_wp2_with (first
        | (with_reducible refine wpList_load_all rfl 24 (.tmp 5) rfl (w.heap.size + 1 + 1) 4 rfl 24 _ H.out.2.2 _ Try.underlying24 rfl (by kernel_rfl) ?_)
        | (with_reducible refine wpList_store_all rfl 24 (.tmp 4) (.tmp 31) rfl (w.heap.size + 1) 4 rfl 24 _ _ H.out.2.1 rfl (by kernel_rfl) (fun _ => rfl) ?_; intro w2 hh ho))
      exact bodyPost_ret (res_row (fn := Try.f32) rfl _ _ (w.heap.size + 1) 4 24 _ _ rfl hh Try.underlying24 rfl (by kernel_rfl)) rfl ⟨rfl, H.out.1.trans (ho.below (by omega) H.out.1.size)⟩

theorem shr_bit (a m i : Nat) : (a / 2 ^ m) / 2 ^ i % 2 = a / 2 ^ (i + m) % 2 := by
  rw [Nat.div_div_eq_div_mul, ← Nat.pow_add, Nat.add_comm m i]
theorem shr_step (a m i : Nat) : (a / 2 ^ m) % 2 ^ (i + 1) = (a / 2 ^ m) % 2 ^ i ||| (a / 2 ^ (i + m) % 2) * 2 ^ i := by
  rw [mod_bit, add_or (Nat.mod_lt _ (Nat.two_pow_pos _)), shr_bit a m i]
theorem shr_end (a m : Nat) (hm : m ≤ 256) (ha : a < P256) : (a / 2 ^ m) % 2 ^ (256 - m) = a / 2 ^ m := by
  refine Nat.mod_eq_of_lt ?_
  rw [Nat.div_lt_iff_lt_mul (Nat.two_pow_pos m), ← Nat.pow_add, Nat.sub_add_cancel hm]
  exact ha

set_option maxRecDepth 100000 in
set_option maxHeartbeats 4000000 in
theorem ref_right_any (a : Nat) (n : Int) (ha : a < P256) (w : World) :
    Calls Try.prog 34 #[wide a, .int .i64 n] w fun e w' => e = .returned (wide (a / 2 ^ held n)) ∧ Below w.heap.size w w' := by
  have hm := held_le n
  have hi := held_int n
  obtain ⟨m, hmm⟩ : ∃ m, m = held n := ⟨_, rfl⟩
  rw [← hmm] at hm hi
  rw [← hmm]
  have HI := Lib.hid hi
  obtain ⟨R, hR⟩ : ∃ R, R = a / 2 ^ m := ⟨_, rfl⟩
  rw [← hR]
  have HR := Lib.hid hR
  have T := Lib.hid (Tri.start w a)
  have HE := Lib.hid (shr_end a m hm ha)
  clear hmm hi hR ha
  go_enter Try.func34, Try.ntmps34
  go_upto_region 3 with fail
  rw [HI.out]
  generalize (if n < 0 then (0 : Int) else n) = z
  go_wp2
  obtain ⟨gg, hgg⟩ : ∃ gg : Nat, m + gg = 256 := ⟨256 - m, by omega⟩
  go_loopg [6] gg (fun k i wr => ∃ j : Nat, j + k = gg ∧ i = .int .i64 (j : Int) ∧ Tri w (wl a) (wl 0) (wl (R % 2 ^ j)) wr)
  case atStart =>
    refine ⟨0, by omega, rfl, ?_⟩
    rw [Nat.pow_zero, Nat.mod_one]
    exact T.out
  case round =>
    clear T
    obtain ⟨j, hj, rfl, hT⟩ := hrel
    obtain ⟨kk, rfl⟩ : ∃ kk : Nat, kk = gk := ⟨_, rfl⟩
    by_cases hlt : j < gg
    · have e1 := shr_step a m j
      rw [← HR.out] at e1
      have hx2 : a / 2 ^ (j + m) % 2 < 2 := Nat.mod_lt _ (by decide)
      have HB0 := bit_any a (j + m) (by omega)
      obtain ⟨x, hx⟩ : ∃ x, x = a / 2 ^ (j + m) % 2 := ⟨_, rfl⟩
      rw [← hx] at e1 hx2 HB0
      obtain ⟨s, hs⟩ : ∃ s : Nat, s = j + m := ⟨_, rfl⟩
      rw [← hs] at HB0
      have es : (j : Int) + (m : Int) = (s : Int) := by omega
      have HB : Hid (∀ W, Calls Try.prog 55 #[.agg #[.int .u64 ((limb a 0 : Nat) : Int), .int .u64 ((limb a 1 : Nat) : Int), .int .u64 ((limb a 2 : Nat) : Int), .int .u64 ((limb a 3 : Nat) : Int)], .int .i64 (s : Int)] W fun e w' => e = .returned (.int .u64 ((x : Nat) : Int)) ∧ Below W.heap.size W w') := Lib.hid HB0
      have ws : IntKind.i64.wrap ((j : Int) + (m : Int)) = (s : Int) := by rw [es]; exact IntWalk.i64_in _ (by omega)
      have E1 := Lib.hid e1
      have EO := Lib.hid (or_shl_int (R % 2 ^ j) x j hx2)
      have H := Lib.hid hT
      have c0 := hT.b2.cell (j / 64) (by omega)
      have a0 := hT.b0.cell 0 (by omega)
      have a1 := hT.b0.cell 1 (by omega)
      have a2 := hT.b0.cell 2 (by omega)
      have a3 := hT.b0.cell 3 (by omega)
      unfold wl at c0 a0 a1 a2 a3
      clear hx hs e1 HB0 hT es
      have q1 : (j : Int).tdiv 64 = (j : Int) / 64 := Int.tdiv_eq_ediv_of_nonneg (by omega)
      have q2 : IntKind.i64.wrap ((j : Int) / 64) = (j : Int) / 64 := IntWalk.i64_in _ (by omega)
      have q3 : (j : Int).tmod 64 = (j : Int) % 64 := Int.tmod_eq_emod_of_nonneg (by omega)
      have u1 : (0 : Int) ≤ (j : Int) / 64 ∧ (j : Int) / 64 < 4 := by omega
      have u3 : ((j : Int) / 64).toNat = j / 64 := by omega
      have u4 : ¬ (j : Int) % 64 < 0 := by omega
      have u5 : ((j : Int) % 64).toNat = j % 64 := by omega
      go_upto_region 6 with fail
      go_region_with (go_at_call 55; refine (HB.out _).mono ?_; rintro e w1 ⟨rfl, hb⟩; have H1 := Lib.hid (H.out.drew.step hb); have c1 : w1.cell? ⟨w.heap.size + 1 + 1, j / 64, none⟩ = some (.int .u64 ((limb (R % 2 ^ j) (j / 64) : Nat) : Int)) := H1.out.b2.cell (j / 64) (by omega); have f1 := H1.out.b2.free (j / 64); clear hb)
      all_goals
        rw [EO.out]
        have HG := H1.out.set2 (j / 64) (.int .u64 ((limb (R % 2 ^ j) (j / 64) ||| x * 2 ^ (j % 64) : Nat) : Int)) fun i _ => wl_or_bit (R % 2 ^ j) x j hx2 i
        rw [← E1.out] at HG
        have G := Lib.hid HG
        clear HG H1 H c0 c1 f1 a0 a1 a2 a3 q1 q2 q3 u1 u3 u4 u5 ws
        go_wp2
        go_roundg (kk - 1)
        case measure => omega
        case rel => exact ⟨j + 1, by omega, by go_num, G.out⟩
    · obtain rfl : j = 256 - m := by omega
      have hb2 := hT.b2
      rw [HR.out, HE.out, ← HR.out] at hb2
      have H := Lib.hid (And.intro hT.below (And.intro hT.b1 hb2))
      clear hT hb2
      go_wp2_with (first
        | (with_reducible refine wpList_load_all rfl 24 (.tmp 5) rfl (w.heap.size + 1 + 1) 4 rfl 24 _ H.out.2.2 _ Try.underlying24 rfl (by kernel_rfl) ?_)
        | (with_reducible refine wpList_store_all rfl 24 (.tmp 4) (.tmp 32) rfl (w.heap.size + 1) 4 rfl 24 _ _ H.out.2.1 rfl (by kernel_rfl) (fun _ => rfl) ?_; intro w2 hh ho))
      exact bodyPost_ret (res_row (fn := Try.f34) rfl _ _ (w.heap.size + 1) 4 24 _ _ rfl hh Try.underlying24 rfl (by kernel_rfl)) rfl ⟨rfl, H.out.1.trans (ho.below (by omega) H.out.1.size)⟩

end Go.Proofs.Ytboffheklkhnkaa
