/- The program's shifts: they return the product with, and the quotient by, a power of 2; what lay in memory stays. -/
import Derived.Test.YtboffheklkhnkaaRefShift
namespace Go.Proofs.Ytboffheklkhnkaa
open Go.RowKit Go.Lib
attribute [local go_sem ↓] Go.wp_at_zero Go.wp_at_succ

/-- The first words of a shifted number, up to word k. -/
def upW (n k : Nat) : Nat → Value := fun i => .int .u64 ((if i < k then limb n i else 0 : Nat) : Int)
theorem upW_step {n k : Nat} {v : Int} (e : v = ((limb n k : Nat) : Int)) (f : Nat → Value) (hf : ∀ i, i < 4 → i ≠ k → f i = upW n k i) (i : Nat) (hi : i < 4) : upd f k (.int .u64 v) i = upW n (k + 1) i := by
  unfold upd
  by_cases h : i = k
  · subst h
    rw [if_pos rfl, e]
    unfold upW
    rw [if_pos (by omega)]
  · rw [if_neg h, hf i hi h]
    unfold upW
    by_cases h2 : i < k
    · rw [if_pos h2, if_pos (by omega)]
    · rw [if_neg h2, if_neg (by omega)]
theorem upd_other {f : Nat → Value} {k : Nat} {v : Value} (i : Nat) (h : i ≠ k) : upd f k v i = f i := by unfold upd; rw [if_neg h]
theorem upW_all (n k i : Nat) (hk : 4 ≤ k) (hi : i < 4) : upW n k i = wl n i := by
  unfold upW wl
  rw [if_pos (by omega)]
theorem upW_low {n k : Nat} (h : ∀ i, i < k → limb n i = 0) (i : Nat) : wl 0 i = upW n k i := by
  unfold upW wl
  have z : limb 0 i = 0 := by unfold limb; simp
  rw [z]
  by_cases hk : i < k
  · rw [if_pos hk, h i hk]
  · rw [if_neg hk]
theorem shl_int (x r : Nat) : IntKind.u64.wrap ((x : Int) * 2 ^ r) = ((x * 2 ^ r % 18446744073709551616 : Nat) : Int) := by
  rw [IntKind.wrap_u64]
  simp
theorem shr_int (x r : Nat) : ((x : Int) / 2 ^ r) = ((x / 2 ^ r : Nat) : Int) := by simp

set_option maxRecDepth 100000 in
set_option maxHeartbeats 4000000 in
theorem left_any (a : Nat) (n : Int) (hn : n ≤ 9223372036854775807) (w : World) :
    Calls Try.prog 31 #[wide a, .int .i64 n] w fun e w' => e = .returned (wide (a * 2 ^ n.toNat)) ∧ Below w.heap.size w w' := by
  have hi : (if n < 0 then (0 : Int) else n) = ((n.toNat : Nat) : Int) := by
    by_cases h : n < 0
    · rw [if_pos h]; omega
    · rw [if_neg h]; omega
  have hm : n.toNat ≤ 9223372036854775807 := by omega
  obtain ⟨m, hmm⟩ : ∃ m, m = n.toNat := ⟨_, rfl⟩
  rw [← hmm] at hi hm
  rw [← hmm]
  have HI := Lib.hid hi
  obtain ⟨R, hR⟩ : ∃ R, R = a * 2 ^ m := ⟨_, rfl⟩
  rw [← hR]
  have HR := Lib.hid hR
  have T := Lib.hid (Tri.start w a)
  clear hmm hi hR hn
  go_enter Try.func31, Try.ntmps31
  obtain ⟨q, hq⟩ : ∃ q, q = m / 64 := ⟨_, rfl⟩
  obtain ⟨r, hr⟩ : ∃ r, r = m % 64 := ⟨_, rfl⟩
  have eq : (m : Int) / 64 = (q : Int) := by omega
  have er : (m : Int) % 64 = (r : Int) := by omega
  have r64 : r < 64 := by omega
  have qs : q ≤ 144115188075855871 := by omega
  have LW : Hid (∀ i, limb R i = if i < q then 0 else (limb a (i - q) * 2 ^ r) % 18446744073709551616 ||| (if i = q then 0 else limb a (i - q - 1) / 2 ^ (64 - r))) := Lib.hid (fun i => by rw [HR.out, hq, hr]; exact limb_shl a m i)
  have EQ := Lib.hid (And.intro eq er)
  clear eq er hq hr
  go_upto_region 2 with fail
  rw [HI.out]
  generalize hz : n = z
  clear hz
  go_upto_region 3 with fail
  rw [EQ.out.1, EQ.out.2]
  go_wp2
  go_loopg [8] (4 - q) (fun k i wr => ∃ j : Nat, k = 4 - j ∧ q ≤ j ∧ j ≤ q + 4 ∧ i = .int .i64 (j : Int) ∧ Tri w (wl a) (wl 0) (upW R j) wr)
  case atStart =>
    refine ⟨q, rfl, Nat.le_refl _, by omega, rfl, T.out.below, T.out.b0, T.out.b1, T.out.b2.to fun i _ => upW_low (fun i hi => ?_) i⟩
    rw [LW.out, if_pos hi]
  case round =>
    clear T
    obtain ⟨j, hj, hqj, hjq, rfl, hT⟩ := hrel
    obtain ⟨kk, rfl⟩ : ∃ kk : Nat, kk = gk := ⟨_, rfl⟩
    by_cases hlt : j < 4
    · by_cases hs : j = q
      · subst hs
        have L := LW.out j
        rw [if_neg (by omega), if_pos rfl, Nat.sub_self, Nat.or_zero] at L
        have c0 := hT.b2.cell j hlt
        have f0 := hT.b2.free j
        have a0 := hT.b0.cell 0 (by omega)
        have H := Lib.hid hT
        unfold wl at a0
        have wi := Lib.hid (shl_int (limb a 0) r)
        have HL := Lib.hid L
        clear hT L hqj hjq
        go_wp2
        rw [wi.out, ← HL.out]
        go_roundg (kk - 1)
        case measure => omega
        case rel =>
          refine ⟨j + 1, by omega, by omega, by omega, by go_num, ?_⟩
          exact H.out.set2 j _ fun i hi => upW_step rfl _ (fun _ _ _ => rfl) i hi
      · obtain ⟨s, rfl⟩ : ∃ s, j = q + (s + 1) := ⟨j - q - 1, by omega⟩
        have L := LW.out (q + (s + 1))
        rw [if_neg (by omega), if_neg (by omega), Nat.add_sub_cancel_left, Nat.add_sub_cancel] at L
        have c0 := hT.b2.cell (q + (s + 1)) hlt
        have f0 := hT.b2.free (q + (s + 1))
        have a0 := hT.b0.cell (s + 1) (by omega)
        have a1 := hT.b0.cell s (by omega)
        have H := Lib.hid hT
        unfold wl at a0 a1
        have HL := Lib.hid L
        clear hT L hs
        obtain ⟨j, hjj⟩ : ∃ j, j = q + (s + 1) := ⟨_, rfl⟩
        rw [← hjj] at c0 f0 H hlt hqj hjq HL hj
        rw [← hjj]
        have e1 : (j : Int) - (q : Int) = (s : Int) + 1 := by omega
        have e3 : ((64 : Int) - (r : Int)).toNat = 64 - r := by omega
        have lq : q < j := by omega
        have ls : s < 4 := by omega
        have wi := Lib.hid (shl_int (limb a (s + 1)) r)
        have JJ := Lib.hid hjj
        clear hjj
        go_upto_region 9 with fail
        rw [wi.out]
        have hG := H.out.set2 (g := upd (upW R j) j (.int .u64 ((limb a (s + 1) * 2 ^ r % 18446744073709551616 : Nat) : Int))) j (.int .u64 ((limb a (s + 1) * 2 ^ r % 18446744073709551616 : Nat) : Int)) (fun _ _ => rfl)
        have lv : limb a (s + 1) * 2 ^ r % 18446744073709551616 < 18446744073709551616 := Nat.mod_lt _ (by decide)
        obtain ⟨v, hv⟩ : ∃ v, v = limb a (s + 1) * 2 ^ r % 18446744073709551616 := ⟨_, rfl⟩
        rw [← hv] at hG HL lv
        rw [← hv]
        generalize wr.setCell ⟨w.heap.size + 1 + 1, j, none⟩ (.int .u64 ((v : Nat) : Int)) = wv at *
        have c1 : wv.cell? ⟨w.heap.size + 1 + 1, j, none⟩ = some (.int .u64 ((v : Nat) : Int)) := by
          have := hG.b2.cell j hlt
          unfold upd at this
          rw [if_pos rfl] at this
          exact this
        have f1 := hG.b2.free j
        have a2 : wv.cell? ⟨w.heap.size, s, none⟩ = some (.int .u64 ((limb a s : Nat) : Int)) := hG.b0.cell s ls
        have G := Lib.hid hG
        have OR := Lib.hid (u64_or_nat v (limb a s / 2 ^ (64 - r)) lv (Nat.lt_of_le_of_lt (Nat.div_le_self _ _) (limb_lt a s)))
        have SH := Lib.hid (shr_int (limb a s) (64 - r))
        clear hG H c0 f0 a0 a1 wi hv lv
        go_region
        all_goals
          rw [SH.out, OR.out, ← HL.out]
          have HG := G.out.set2 j (.int .u64 ((limb R j : Nat) : Int)) fun i hi => upW_step rfl _ (fun i _ h => upd_other i h) i hi
          have GG := Lib.hid HG
          clear HG G c1 f1 a2
          go_wp2
          go_roundg (kk - 1)
          case measure => omega
          case rel => exact ⟨j + 1, by omega, by omega, by omega, by go_num, GG.out.drew⟩
    · have H := Lib.hid (And.intro hT.below (And.intro hT.b1 (hT.b2.to (fun i hi => upW_all R j i (by omega) hi))))
      clear hT
      go_wp2_with (first
        | (with_reducible refine wpList_load_all rfl 24 (.tmp 7) rfl (w.heap.size + 1 + 1) 4 rfl 24 _ H.out.2.2 _ Try.underlying24 rfl (by kernel_rfl) ?_)
        | (with_reducible refine wpList_store_all rfl 24 (.tmp 4) (.tmp 46) rfl (w.heap.size + 1) 4 rfl 24 _ _ H.out.2.1 rfl (by kernel_rfl) (fun _ => rfl) ?_; intro w2 hh ho))
      exact bodyPost_ret (res_row (fn := Try.f31) rfl _ _ (w.heap.size + 1) 4 24 _ _ rfl hh Try.underlying24 rfl (by kernel_rfl)) rfl ⟨rfl, H.out.1.trans (ho.below (by omega) H.out.1.size)⟩
end Go.Proofs.Ytboffheklkhnkaa
