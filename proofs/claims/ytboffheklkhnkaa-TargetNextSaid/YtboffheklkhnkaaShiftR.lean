/- The program's shift down: it returns the quotient by a power of 2; what lay in memory stays. -/
import Derived.Test.YtboffheklkhnkaaShift
namespace Go.Proofs.Ytboffheklkhnkaa
open Go.RowKit Go.Lib
attribute [local go_sem ↓] Go.wp_at_zero Go.wp_at_succ

theorem upW_high {n k : Nat} (h : ∀ i, i < 4 → k ≤ i → limb n i = 0) (i : Nat) (hi : i < 4) : upW n k i = wl n i := by
  unfold upW wl
  by_cases hk : i < k
  · rw [if_pos hk]
  · rw [if_neg hk, h i hi (by omega)]

set_option maxRecDepth 100000 in
set_option maxHeartbeats 4000000 in
theorem right_any (a : Nat) (n : Int) (ha : a < P256) (hn : n ≤ 9223372036854775807) (w : World) :
    Calls Try.prog 33 #[wide a, .int .i64 n] w fun e w' => e = .returned (wide (a / 2 ^ n.toNat)) ∧ Below w.heap.size w w' := by
  have hi : (if n < 0 then (0 : Int) else n) = ((n.toNat : Nat) : Int) := by
    by_cases h : n < 0
    · rw [if_pos h]; omega
    · rw [if_neg h]; omega
  have hm : n.toNat ≤ 9223372036854775807 := by omega
  obtain ⟨m, hmm⟩ : ∃ m, m = n.toNat := ⟨_, rfl⟩
  rw [← hmm] at hi hm
  rw [← hmm]
  have HI := Lib.hid hi
  obtain ⟨R, hR⟩ : ∃ R, R = a / 2 ^ m := ⟨_, rfl⟩
  rw [← hR]
  have HR := Lib.hid hR
  have T := Lib.hid (Tri.start w a)
  clear hmm hi hR hn
  obtain ⟨q, hq⟩ : ∃ q, q = m / 64 := ⟨_, rfl⟩
  obtain ⟨r, hr⟩ : ∃ r, r = m % 64 := ⟨_, rfl⟩
  have eq : (m : Int) / 64 = (q : Int) := by omega
  have er : (m : Int) % 64 = (r : Int) := by omega
  have r64 : r < 64 := by omega
  have qs : q ≤ 144115188075855871 := by omega
  have LW : Hid (∀ i, limb R i = limb a (i + q) / 2 ^ r ||| (limb a (i + q + 1) * 2 ^ (64 - r)) % 18446744073709551616) := Lib.hid (fun i => by rw [HR.out, hq, hr]; exact limb_shr a m i)
  have LZ : Hid (∀ i, 4 ≤ i → limb a i = 0) := Lib.hid (fun i hi => limb_big (m := 4) (by rw [← P256_is]; exact ha) hi)
  have EQ := Lib.hid (And.intro eq er)
  clear eq er hq hr ha
  go_enter Try.func33, Try.ntmps33
  go_upto_region 2 with fail
  rw [HI.out]
  generalize hz : n = z
  clear hz
  go_upto_region 3 with fail
  rw [EQ.out.1, EQ.out.2]
  go_wp2
  go_loopg [8] (4 - q) (fun k i wr => ∃ j t : Nat, k = 4 - j ∧ j = q + t ∧ t ≤ 4 ∧ i = .int .i64 (j : Int) ∧ Tri w (wl a) (wl 0) (upW R t) wr)
  case atStart =>
    exact ⟨q, 0, rfl, rfl, by omega, rfl, T.out.below, T.out.b0, T.out.b1, T.out.b2.to fun i _ => upW_low (fun i hi => absurd hi (by omega)) i⟩
  case round =>
    clear T
    obtain ⟨j, t, hj, hjj, ht4, rfl, hT⟩ := hrel
    obtain ⟨kk, rfl⟩ : ∃ kk : Nat, kk = gk := ⟨_, rfl⟩
    by_cases hlt : j < 4
    · have L := LW.out t
      have e0 : t + q = j := by omega
      rw [e0] at L
      have e1 : (j : Int) - (q : Int) = (t : Int) := by omega
      have lt4 : t < 4 := by omega
      have c0 := hT.b2.cell t lt4
      have f0 := hT.b2.free t
      have a0 := hT.b0.cell j hlt
      have H := Lib.hid hT
      unfold wl at a0
      have wi := Lib.hid (shr_int (limb a j) r)
      have JJ := Lib.hid hjj
      clear hT hjj e0
      by_cases hs : j = 3
      · have L2 : limb R t = limb a j / 2 ^ r := by rw [L, LZ.out (j + 1) (by omega), Nat.zero_mul, Nat.zero_mod, Nat.or_zero]
        have HL := Lib.hid L2
        have j3 : ¬ j + 1 < 4 := by omega
        have JS := Lib.hid hs
        clear L L2 hs
        go_wp2
        rw [wi.out, ← HL.out]
        have HG := H.out.set2 t (.int .u64 ((limb R t : Nat) : Int)) fun i hi => upW_step rfl _ (fun _ _ _ => rfl) i hi
        have GG := Lib.hid HG
        clear HG
        go_roundg (kk - 1)
        case measure => omega
        case rel =>
          have := JJ.out
          exact ⟨j + 1, t + 1, by omega, by omega, by omega, by go_num, GG.out⟩
      · have j3 : j + 1 < 4 := by omega
        have a1 : wr.cell? ⟨w.heap.size, j + 1, none⟩ = some (.int .u64 ((limb a (j + 1) : Nat) : Int)) := H.out.b0.cell (j + 1) j3
        have HL := Lib.hid L
        have e3 : ((64 : Int) - (r : Int)).toNat = 64 - r := by omega
        have e2 : ((j : Int) + 1).toNat = j + 1 := by omega
        have JS := Lib.hid hs
        clear L hs
        go_upto_region 9 with fail
        rw [wi.out]
        have hG := H.out.set2 (g := upd (upW R t) t (.int .u64 ((limb a j / 2 ^ r : Nat) : Int))) t (.int .u64 ((limb a j / 2 ^ r : Nat) : Int)) (fun _ _ => rfl)
        have lv : limb a j / 2 ^ r < 18446744073709551616 := Nat.lt_of_le_of_lt (Nat.div_le_self _ _) (limb_lt a j)
        obtain ⟨v, hv⟩ : ∃ v, v = limb a j / 2 ^ r := ⟨_, rfl⟩
        rw [← hv] at hG HL lv
        rw [← hv]
        generalize wr.setCell ⟨w.heap.size + 1 + 1, t, none⟩ (.int .u64 ((v : Nat) : Int)) = wv at *
        have c1 : wv.cell? ⟨w.heap.size + 1 + 1, t, none⟩ = some (.int .u64 ((v : Nat) : Int)) := by
          have := hG.b2.cell t lt4
          unfold upd at this
          rw [if_pos rfl] at this
          exact this
        have f1 := hG.b2.free t
        have a2 : wv.cell? ⟨w.heap.size, j + 1, none⟩ = some (.int .u64 ((limb a (j + 1) : Nat) : Int)) := hG.b0.cell (j + 1) j3
        have G := Lib.hid hG
        have OR := Lib.hid (u64_or_nat v (limb a (j + 1) * 2 ^ (64 - r) % 18446744073709551616) lv (Nat.mod_lt _ (by decide)))
        have SH := Lib.hid (shl_int (limb a (j + 1)) (64 - r))
        clear hG H c0 f0 a0 a1 wi hv lv
        go_region
        all_goals
          rw [SH.out, OR.out, ← HL.out]
          have HG := G.out.set2 t (.int .u64 ((limb R t : Nat) : Int)) fun i hi => upW_step rfl _ (fun i _ h => upd_other i h) i hi
          have GG := Lib.hid HG
          clear HG G c1 f1 a2
          go_wp2
          go_roundg (kk - 1)
          case measure => omega
          case rel =>
            have := JJ.out
            exact ⟨j + 1, t + 1, by omega, by omega, by omega, by go_num, GG.out.drew⟩
    · have H := Lib.hid (And.intro hT.below (And.intro hT.b1 (hT.b2.to (fun i hi => upW_high (fun i hi hti => by rw [LW.out, LZ.out (i + q) (by omega), LZ.out (i + q + 1) (by omega), Nat.zero_mul, Nat.zero_mod, Nat.zero_div, Nat.or_zero]) i hi))))
      clear hT
      go_wp2_with (first
        | (with_reducible refine wpList_load_all rfl 24 (.tmp 7) rfl (w.heap.size + 1 + 1) 4 rfl 24 _ H.out.2.2 _ Try.underlying24 rfl (by kernel_rfl) ?_)
        | (with_reducible refine wpList_store_all rfl 24 (.tmp 4) (.tmp 46) rfl (w.heap.size + 1) 4 rfl 24 _ _ H.out.2.1 rfl (by kernel_rfl) (fun _ => rfl) ?_; intro w2 hh ho))
      exact bodyPost_ret (res_row (fn := Try.f33) rfl _ _ (w.heap.size + 1) 4 24 _ _ rfl hh Try.underlying24 rfl (by kernel_rfl)) rfl ⟨rfl, H.out.1.trans (ho.below (by omega) H.out.1.size)⟩
end Go.Proofs.Ytboffheklkhnkaa
