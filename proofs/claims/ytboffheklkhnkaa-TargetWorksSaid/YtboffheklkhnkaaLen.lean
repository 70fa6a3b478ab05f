/- bits.Len64, and how many bits a number of 256 bits has, by the program: they return the number of bits; what lay in memory stays. (The walk of Len64 is by the kit's template.) -/
import Derived.Test.YtboffheklkhnkaaComp
import Derived.Test.YtboffheklkhnkaaLenLib
import Derived.Lib.ItoaNum
namespace Go.Proofs.Ytboffheklkhnkaa
open Go.RowKit Go.Lib
attribute [local go_sem ↓] Go.wp_at_zero Go.wp_at_succ

theorem bitLen_is (x : Nat) (hx : x < 18446744073709551616) : Lib.bitLen x = blen x := by
  by_cases h : x = 0
  · subst h; decide
  · obtain ⟨h1, h2, h3⟩ := Lib.bitLenAux_bounds 64 x hx h
    have e : Lib.bitLenAux 64 x = (Lib.bitLenAux 64 x - 1) + 1 := by omega
    show Lib.bitLenAux 64 x = blen x
    rw [e]
    exact (blen_is h2 (by rw [← e]; exact h3)).symm
theorem len64_any (x : Nat) (hx : x < 18446744073709551616) (w : World) : Calls Try.prog 60 #[.int .u64 (x : Int)] w fun e w' => e = .returned (.int .i64 ((blen x : Nat) : Int)) ∧ w = w' :=
  (len64_lib (x : Int) w (by omega) (by omega)).mono fun e w' ⟨he, hw⟩ => ⟨by rw [he, Int.toNat_natCast, bitLen_is x hx], hw.symm⟩

set_option maxRecDepth 100000 in
set_option maxHeartbeats 2000000 in
theorem bits_any (a : Nat) (ha : a < P256) (w : World) :
    Calls Try.prog 35 #[wide a] w fun e w' => e = .returned (.int .i64 ((blen a : Nat) : Int)) ∧ Below w.heap.size w w' := by
  have HS : Hid (a < 2 ^ (64 * 4)) := Lib.hid (by rw [← P256_is]; exact ha)
  have b0 := below_new w (.cells (arr 4 (wl a)) 24)
  have h0 := HasAt.new w (wl a) 4 24
  have H0 := Lib.hid (And.intro b0 h0)
  clear b0 h0 ha
  go_enter Try.func35, Try.ntmps35
  go_wp2
  go_loopg [3] 4 (fun k i wr => i = .int .i64 ((k : Int) - 1) ∧ k ≤ 4 ∧ a < 2 ^ (64 * k) ∧ Below w.heap.size w wr ∧ HasAt w.heap.size 24 4 (wl a) wr)
  case atStart => exact ⟨rfl, by omega, HS.out, H0.out.1, H0.out.2⟩
  case round =>
    clear H0 HS
    obtain ⟨rfl, hk, hd, hB, hA⟩ := hrel
    obtain ⟨kk, rfl⟩ : ∃ kk : Nat, kk = gk := ⟨_, rfl⟩
    rcases Nat.eq_zero_or_pos kk with h0 | h0
    · subst h0
      have e : a = 0 := by simpa using hd
      subst e
      have H := Lib.hid hB
      have E := Lib.hid blen_zero
      clear hd hB hA
      go_wp2
      rw [E.out]
      go_ret
      exact ⟨rfl, H.out⟩
    · obtain ⟨t, rfl⟩ : ∃ t, kk = t + 1 := ⟨kk - 1, by omega⟩
      have e1 : (((t + 1 : Nat) : Int) - 1) = (t : Int) := by omega
      rw [e1]
      clear e1
      have ca := hA.cell t (by omega)
      unfold wl at ca
      have H := Lib.hid (And.intro hB hA)
      have ht : t < 4 := by omega
      clear hB hA hk h0
      by_cases he : limb a t = 0
      · have hlow : a < 2 ^ (64 * t) := by
          have h1 := div_word a t
          rw [Nat.div_eq_of_lt hd, he] at h1
          have h2 : a / 2 ^ (64 * t) < 1 := by omega
          rw [Nat.div_lt_iff_lt_mul (Nat.two_pow_pos _)] at h2
          omega
        have D := Lib.hid hlow
        rw [he] at ca
        clear hd he hlow
        go_wp2
        go_roundg t
        case measure => omega
        case rel => exact ⟨rfl, by omega, D.out, H.out.1, H.out.2⟩
      · have hq : (((limb a t : Nat) : Int) != 0) = true := by simp; omega
        have C := Lib.hid (len64_any (limb a t) (limb_lt a t))
        have hb : blen (limb a t) ≤ 64 := blen_le_of (limb_lt a t)
        have D := Lib.hid (blen_word hd he)
        obtain ⟨n, hn⟩ : ∃ n, n = blen (limb a t) := ⟨_, rfl⟩
        rw [← hn] at C hb D
        have D2 : Hid ((t : Int) * 64 + (n : Int) = ((blen a : Nat) : Int)) := Lib.hid (by rw [D.out]; omega)
        clear hd he hn D
        go_wp2_with (go_at_call 60; refine (C.out _).mono ?_; rintro e w' ⟨rfl, rfl⟩)
        rw [D2.out]
        go_ret
        exact ⟨rfl, H.out.1⟩
end Go.Proofs.Ytboffheklkhnkaa
