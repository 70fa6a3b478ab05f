/- The document's order of two numbers of 256 bits, bit by bit, and how many bits one has: they return -1, 0 or 1, and the number of bits; what lay in memory stays. -/
import Derived.Test.YtboffheklkhnkaaComp
import Derived.Test.YtboffheklkhnkaaEnv
namespace Go.Proofs.Ytboffheklkhnkaa
open Go.RowKit Go.Lib
attribute [local go_sem ↓] Go.wp_at_zero Go.wp_at_succ

theorem cmp_bit_lt {a b t : Nat} (h : a / 2 ^ (t + 1) = b / 2 ^ (t + 1)) (hlt : a / 2 ^ t % 2 < b / 2 ^ t % 2) : cmp3 a b = -1 := by
  have ha := div_bit a t
  have hb := div_bit b t
  exact cmp3_div (p := 2 ^ t) (by omega)
theorem cmp_bit_gt {a b t : Nat} (h : a / 2 ^ (t + 1) = b / 2 ^ (t + 1)) (hlt : b / 2 ^ t % 2 < a / 2 ^ t % 2) : cmp3 a b = 1 := by
  have ha := div_bit a t
  have hb := div_bit b t
  exact cmp3_div' (p := 2 ^ t) (by omega)
theorem same_bit {a b t : Nat} (h : a / 2 ^ (t + 1) = b / 2 ^ (t + 1)) (he : a / 2 ^ t % 2 = b / 2 ^ t % 2) : a / 2 ^ t = b / 2 ^ t := by
  have ha := div_bit a t
  have hb := div_bit b t
  omega

set_option maxRecDepth 100000 in
set_option maxHeartbeats 2000000 in
theorem ref_compare_any (a b : Nat) (ha : a < P256) (hb : b < P256) (w : World) :
    Calls Try.prog 30 #[wide a, wide b] w fun e w' => e = .returned (.int .i64 (cmp3 a b)) ∧ Below w.heap.size w w' := by
  have HS : Hid (a / 2 ^ 256 = b / 2 ^ 256) := Lib.hid (high_same ha hb)
  clear ha hb
  go_enter Try.func30, Try.ntmps30
  go_wp2
  go_loopg [5] 256 (fun k i wr => i = .int .i64 ((k : Int) - 1) ∧ k ≤ 256 ∧ a / 2 ^ k = b / 2 ^ k ∧ Pair w (wl a) (wl b) wr)
  case atStart => exact ⟨rfl, by omega, HS.out, Pair.start w (wl a) (wl b)⟩
  case round =>
    obtain ⟨rfl, hk, hd, hP⟩ := hrel
    obtain ⟨kk, rfl⟩ : ∃ kk : Nat, kk = gk := ⟨_, rfl⟩
    rcases Nat.eq_zero_or_pos kk with h0 | h0
    · subst h0
      have e : a = b := by simpa using hd
      subst e
      have H := Lib.hid hP
      have E := Lib.hid (cmp3_refl a)
      clear hd hP
      go_wp2
      rw [E.out]
      go_ret
      exact ⟨rfl, H.out.below⟩
    · obtain ⟨t, rfl⟩ : ∃ t, kk = t + 1 := ⟨kk - 1, by omega⟩
      have e1 : (((t + 1 : Nat) : Int) - 1) = (t : Int) := by omega
      rw [e1]
      clear e1
      have H := Lib.hid hP
      have ht : t < 256 := by omega
      have HA : Hid (∀ W, Calls Try.prog 55 #[wide a, .int .i64 (t : Int)] W _) := Lib.hid (bit_any a t ht)
      have HB : Hid (∀ W, Calls Try.prog 55 #[wide b, .int .i64 (t : Int)] W _) := Lib.hid (bit_any b t ht)
      clear hP hk h0
      have LT := Lib.hid (fun h : a / 2 ^ t % 2 < b / 2 ^ t % 2 => cmp_bit_lt hd h)
      have GT := Lib.hid (fun h : b / 2 ^ t % 2 < a / 2 ^ t % 2 => cmp_bit_gt hd h)
      have SA := Lib.hid (fun h : a / 2 ^ t % 2 = b / 2 ^ t % 2 => same_bit hd h)
      obtain ⟨x, hx⟩ : ∃ x, x = a / 2 ^ t % 2 := ⟨_, rfl⟩
      obtain ⟨y, hy⟩ : ∃ y, y = b / 2 ^ t % 2 := ⟨_, rfl⟩
      rw [← hx] at HA LT GT SA
      rw [← hy] at HB LT GT SA
      clear hx hy hd
      go_upto_region 4 with fail
      go_cut [16] (fun s wx => s = .bool (decide (x < y)) ∧ Pair w (wl a) (wl b) wx)
      case first =>
        refine wp_region_quiet_below (by kernel_rfl) (by kernel_rfl) ?_
        refine wpQuiet_load_all 24 (.tmp 2) rfl rfl w.heap.size rfl (wide a) (fun w3 hC => by obtain ⟨p, rfl⟩ := hC; exact (H.out.b0.below (below_regrown wr p.d p.os)).load 24 _ Try.underlying24 rfl (by kernel_rfl)) ?_
        repeat (quiet_step (exact Calls.regrown_of (HA.out _)))
        refine wpQuiet_load_all 24 (.tmp 3) rfl rfl (w.heap.size + 1) rfl (wide b) (fun w3 hC => by obtain ⟨p, rfl⟩ := hC; exact (H.out.b1.below (below_regrown wr p.d p.os)).load 24 _ Try.underlying24 rfl (by kernel_rfl)) ?_
        repeat (quiet_step (exact Calls.regrown_of (HB.out _)))
        refine wpQuiet_nil ?_
        intro _ hw'
        obtain ⟨⟨dq, osq⟩, hw''⟩ := hw'
        subst hw''
        go_wp2_with fail
        go_meet
        exact ⟨by simp, H.out.step (below_regrown wr dq osq)⟩
      case rest =>
        obtain ⟨rfl, hP⟩ := hcut
        have H2 := Lib.hid hP
        clear hP H
        by_cases hlt : x < y
        · have D := Lib.hid (LT.out hlt)
          clear LT GT SA
          go_wp2
          rw [D.out]
          go_ret
          exact ⟨rfl, H2.out.below⟩
        · go_upto_region 6 with fail
          go_cut [23] (fun s wx => s = .bool (decide (y < x)) ∧ Pair w (wl a) (wl b) wx)
          case first =>
            refine wp_region_quiet_below (by kernel_rfl) (by kernel_rfl) ?_
            refine wpQuiet_load_all 24 (.tmp 2) rfl rfl w.heap.size rfl (wide a) (fun w3 hC => by obtain ⟨p, rfl⟩ := hC; exact (H2.out.b0.below (below_regrown wc p.d p.os)).load 24 _ Try.underlying24 rfl (by kernel_rfl)) ?_
            repeat (quiet_step (exact Calls.regrown_of (HA.out _)))
            refine wpQuiet_load_all 24 (.tmp 3) rfl rfl (w.heap.size + 1) rfl (wide b) (fun w3 hC => by obtain ⟨p, rfl⟩ := hC; exact (H2.out.b1.below (below_regrown wc p.d p.os)).load 24 _ Try.underlying24 rfl (by kernel_rfl)) ?_
            repeat (quiet_step (exact Calls.regrown_of (HB.out _)))
            refine wpQuiet_nil ?_
            intro _ hw'
            obtain ⟨⟨dq, osq⟩, hw''⟩ := hw'
            subst hw''
            go_wp2_with fail
            go_meet
            exact ⟨by simp, H2.out.step (below_regrown wc dq osq)⟩
          case rest =>
            obtain ⟨rfl, hP⟩ := hcut
            have H3 := Lib.hid hP
            clear hP H2
            by_cases hgt : y < x
            · have D := Lib.hid (GT.out hgt)
              clear LT GT SA
              go_wp2
              rw [D.out]
              go_ret
              exact ⟨rfl, H3.out.below⟩
            · have D := Lib.hid (SA.out (by omega))
              clear LT GT SA
              go_wp2
              go_roundg t
              case measure => omega
              case rel => exact ⟨rfl, by omega, D.out, H3.out⟩

theorem bits_top {a t : Nat} (h : a / 2 ^ (t + 1) = 0) (he : a / 2 ^ t % 2 = 1) : ((blen a : Nat) : Int) = (t : Int) + 1 := by
  have ha := div_bit a t
  have e : blen a = t + 1 := by
    refine blen_is ?_ ?_
    · have : 1 ≤ a / 2 ^ t := by omega
      rw [Nat.le_div_iff_mul_le (Nat.two_pow_pos t)] at this
      omega
    · have : a / 2 ^ (t + 1) < 1 := by omega
      rw [Nat.div_lt_iff_lt_mul (Nat.two_pow_pos _)] at this
      omega
  omega
set_option maxRecDepth 100000 in
set_option maxHeartbeats 2000000 in
theorem ref_bits_any (a : Nat) (ha : a < P256) (w : World) :
    Calls Try.prog 36 #[wide a] w fun e w' => e = .returned (.int .i64 ((blen a : Nat) : Int)) ∧ Below w.heap.size w w' := by
  have HS : Hid (a / 2 ^ 256 = 0) := Lib.hid (Nat.div_eq_of_lt ha)
  clear ha
  go_enter Try.func36, Try.ntmps36
  go_wp2
  go_loopg [3] 256 (fun k i wr => i = .int .i64 ((k : Int) - 1) ∧ k ≤ 256 ∧ a / 2 ^ k = 0 ∧ Env w [(w.heap.size, wl a)] wr)
  case atStart => exact ⟨rfl, by omega, HS.out, Env.box1 w (wl a)⟩
  case round =>
    obtain ⟨rfl, hk, hd, hP⟩ := hrel
    obtain ⟨kk, rfl⟩ : ∃ kk : Nat, kk = gk := ⟨_, rfl⟩
    rcases Nat.eq_zero_or_pos kk with h0 | h0
    · subst h0
      have e : a = 0 := by simpa using hd
      subst e
      have H := Lib.hid hP
      have E := Lib.hid blen_zero
      clear hd hP
      go_wp2
      rw [E.out]
      go_ret
      exact ⟨rfl, H.out.below⟩
    · obtain ⟨t, rfl⟩ : ∃ t, kk = t + 1 := ⟨kk - 1, by omega⟩
      have e1 : (((t + 1 : Nat) : Int) - 1) = (t : Int) := by omega
      rw [e1]
      clear e1
      have E := Lib.hid hP
      have ht : t < 256 := by omega
      have HA : Hid (∀ W, Calls Try.prog 55 #[wide a, .int .i64 (t : Int)] W _) := Lib.hid (bit_any a t ht)
      clear hP hk h0
      have T := Lib.hid (fun h : a / 2 ^ t % 2 = 1 => bits_top hd h)
      have Z := Lib.hid (fun h : a / 2 ^ t % 2 = 0 => (div_bit a t).trans (by rw [hd, h]))
      have hx2 : a / 2 ^ t % 2 < 2 := Nat.mod_lt _ (by decide)
      obtain ⟨x, hx⟩ : ∃ x, x = a / 2 ^ t % 2 := ⟨_, rfl⟩
      rw [← hx] at HA T Z hx2
      clear hx hd
      have hx01 : x = 0 ∨ x = 1 := by omega
      clear hx2
      rcases hx01 with rfl | rfl
      · have D := Lib.hid (Z.out rfl)
        clear T Z
        go_wp2_with (first
          | (go_at_call 55; refine (HA.out _).mono ?_; rintro e w1 ⟨rfl, hb⟩; replace E := Lib.hid (E.out.call hb); clear hb)
          | (with_reducible refine env_load E _ (by kernel_rfl) rfl rfl List.mem_cons_self ?_))
        go_roundg t
        case measure => omega
        case rel => exact ⟨rfl, by omega, D.out, E.out⟩
      · have D := Lib.hid (T.out rfl)
        clear T Z
        go_wp2_with (first
          | (go_at_call 55; refine (HA.out _).mono ?_; rintro e w1 ⟨rfl, hb⟩; replace E := Lib.hid (E.out.call hb); clear hb)
          | (with_reducible refine env_load E _ (by kernel_rfl) rfl rfl List.mem_cons_self ?_))
        rw [D.out]
        go_ret
        exact ⟨rfl, E.out.below⟩
end Go.Proofs.Ytboffheklkhnkaa
