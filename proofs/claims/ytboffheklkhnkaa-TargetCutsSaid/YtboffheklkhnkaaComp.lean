/- The program's order of two numbers of 256 bits: it returns -1, 0 or 1; what lay in memory stays. -/
import Derived.Test.YtboffheklkhnkaaQuad
namespace Go.Proofs.Ytboffheklkhnkaa
open Go.RowKit Go.Lib
attribute [local go_sem ↓] Go.wp_at_zero Go.wp_at_succ

/-- Two blocks of four words behind what w had. -/
structure Pair (w : World) (f0 f1 : Nat → Value) (wr : World) : Prop where
  below : Below w.heap.size w wr
  b0 : HasAt w.heap.size 24 4 f0 wr
  b1 : HasAt (w.heap.size + 1) 24 4 f1 wr
section
variable {w wr w' : World} {f0 f1 g : Nat → Value}
theorem Pair.start (w : World) (f0 f1 : Nat → Value) : Pair w f0 f1 ((w.alloc (.cells (arr 4 f0) 24)).alloc (.cells (arr 4 f1) 24)) := by
  have s1 : (w.alloc (.cells (arr 4 f0) 24)).heap.size = w.heap.size + 1 := by simp
  refine ⟨(below_new w _).trans ((below_new _ _).mono (by simp)), (HasAt.new w f0 4 24).alloc _, ?_⟩
  have h := HasAt.new (w.alloc (.cells (arr 4 f0) 24)) f1 4 24
  rw [s1] at h
  exact h
theorem Pair.drew (h : Pair w f0 f1 wr) : Pair w f0 f1 wr.drew := ⟨h.below.drew, h.b0.drew, h.b1.drew⟩
theorem Pair.drewN {n : Nat} (h : Pair w f0 f1 wr) : Pair w f0 f1 (wr.drewN n) := ⟨⟨h.below.os, h.below.tape, h.below.output, h.below.size, h.below.block⟩, h.b0.drewN, h.b1.drewN⟩
theorem Pair.step (h : Pair w f0 f1 wr) (hb : Below wr.heap.size wr w') : Pair w f0 f1 w' := ⟨h.below.trans (hb.mono h.below.size), h.b0.below hb, h.b1.below hb⟩
theorem Pair.set1 (h : Pair w f0 f1 wr) (j : Nat) (v : Value) (e : ∀ i, i < 4 → upd f1 j v i = g i) : Pair w f0 g (wr.setCell ⟨w.heap.size + 1, j, none⟩ v) :=
  ⟨h.below.setCell (by simp) _, h.b0.other _ _ (by simp), h.b1.set j _ e⟩
end

set_option maxHeartbeats 400000 in
theorem isnan_any (x : Nat) (w : World) : Calls Try.prog 66 #[.int .u64 (x : Int)] w fun e w' => e = .returned (.bool false) ∧ w = w' := by
  go_enter Try.func66, Try.ntmps66
  go_wp2
  go_ret
  exact ⟨rfl, rfl⟩
set_option maxHeartbeats 1000000 in
theorem cmp64_any (x y : Nat) (w : World) : Calls Try.prog 59 #[.int .u64 (x : Int), .int .u64 (y : Int)] w fun e w' => e = .returned (.int .i64 (cmp3 x y)) ∧ w = w' := by
  rcases Nat.lt_trichotomy x y with h | h | h
  · have e := cmp3_lt h
    have E := Lib.hid e
    clear e
    go_enter Try.func59, Try.ntmps59
    go_wp2_with (go_at_call 66; first | ((with_reducible refine (isnan_any x _).mono ?_); rintro e w' ⟨rfl, rfl⟩) | ((with_reducible refine (isnan_any y _).mono ?_); rintro e w' ⟨rfl, rfl⟩))
    rw [E.out]
    go_ret
    exact ⟨rfl, rfl⟩
  · subst h
    have E := Lib.hid (cmp3_refl x)
    go_enter Try.func59, Try.ntmps59
    go_wp2_with (go_at_call 66; refine (isnan_any x _).mono ?_; rintro e w' ⟨rfl, rfl⟩)
    rw [E.out]
    go_ret
    exact ⟨rfl, rfl⟩
  · have e := cmp3_gt h
    have E := Lib.hid e
    clear e
    have h2 : ¬ x < y := by omega
    go_enter Try.func59, Try.ntmps59
    go_wp2_with (go_at_call 66; first | ((with_reducible refine (isnan_any x _).mono ?_); rintro e w' ⟨rfl, rfl⟩) | ((with_reducible refine (isnan_any y _).mono ?_); rintro e w' ⟨rfl, rfl⟩))
    rw [E.out]
    go_ret
    exact ⟨rfl, rfl⟩

/-- The order of numbers by a word of theirs, those above it being alike. -/
theorem cmp_word {a b t : Nat} (h : a / 2 ^ (64 * (t + 1)) = b / 2 ^ (64 * (t + 1))) (hne : limb a t ≠ limb b t) : cmp3 (limb a t) (limb b t) = cmp3 a b := by
  have ha := div_word a t
  have hb := div_word b t
  rw [h] at ha
  rcases Nat.lt_or_ge (limb a t) (limb b t) with q | q
  · rw [cmp3_lt q, cmp3_div (p := 2 ^ (64 * t)) (by omega)]
  · rw [cmp3_gt (by omega), cmp3_div' (p := 2 ^ (64 * t)) (by omega)]
theorem same_word {a b t : Nat} (h : a / 2 ^ (64 * (t + 1)) = b / 2 ^ (64 * (t + 1))) (he : limb a t = limb b t) : a / 2 ^ (64 * t) = b / 2 ^ (64 * t) := by
  rw [div_word a t, div_word b t, h, he]
theorem high_same {a b : Nat} (ha : a < P256) (hb : b < P256) : a / 2 ^ (64 * 4) = b / 2 ^ (64 * 4) := by
  rw [← P256_is, Nat.div_eq_of_lt ha, Nat.div_eq_of_lt hb]

set_option maxRecDepth 100000 in
set_option maxHeartbeats 2000000 in
theorem compare_any (a b : Nat) (ha : a < P256) (hb : b < P256) (w : World) :
    Calls Try.prog 29 #[wide a, wide b] w fun e w' => e = .returned (.int .i64 (cmp3 a b)) ∧ Below w.heap.size w w' := by
  have HS := Lib.hid (high_same ha hb)
  clear ha hb
  go_enter Try.func29, Try.ntmps29
  go_wp2
  go_loopg [5] 4 (fun k i wr => i = .int .i64 ((k : Int) - 1) ∧ k ≤ 4 ∧ a / 2 ^ (64 * k) = b / 2 ^ (64 * k) ∧ Pair w (wl a) (wl b) wr)
  case atStart => exact ⟨rfl, by omega, HS.out, Pair.start w (wl a) (wl b)⟩
  case round =>
    obtain ⟨rfl, hk, hd, hP⟩ := hrel
    obtain ⟨kk, rfl⟩ : ∃ kk : Nat, kk = gk := ⟨_, rfl⟩
    rcases Nat.eq_zero_or_pos kk with h0 | h0
    · subst h0
      have e : a = b := by simpa using hd
      subst e
      have H := Lib.hid hP
      have E := Lib.hid (cmp3_refl a)
      clear hd hP
      go_wp2
      rw [E.out]
      go_ret
      exact ⟨rfl, H.out.below⟩
    · obtain ⟨t, rfl⟩ : ∃ t, kk = t + 1 := ⟨kk - 1, by omega⟩
      have e1 : (((t + 1 : Nat) : Int) - 1) = (t : Int) := by omega
      rw [e1]
      clear e1
      have ca := hP.b0.cell t (by omega)
      have cb := hP.b1.cell t (by omega)
      unfold wl at ca cb
      have H := Lib.hid hP
      have ht : t < 4 := by omega
      clear hP hk h0
      by_cases he : limb a t = limb b t
      · have D := Lib.hid (same_word hd he)
        have hq : (((limb a t : Nat) : Int) != ((limb b t : Nat) : Int)) = false := by simp [he]
        clear hd he
        go_upto_region 4 with fail
        go_quiet (fail)
        go_wp2
        go_roundg t
        case measure => omega
        case rel => exact ⟨rfl, by omega, D.out, H.out.drewN⟩
      · have D := Lib.hid (cmp_word hd he)
        have hq : (((limb a t : Nat) : Int) != ((limb b t : Nat) : Int)) = true := by simp; omega
        have C := Lib.hid (cmp64_any (limb a t) (limb b t))
        clear hd he
        go_upto_region 4 with fail
        go_quiet (fail)
        go_upto_region 5 with fail
        have ca2 : (wr.drewN nq).cell? _ = _ := ca
        have cb2 : (wr.drewN nq).cell? _ = _ := cb
        have H2 := Lib.hid (H.out.drewN (n := nq))
        clear ca cb H
        generalize wr.drewN nq = wd at *
        go_quiet ((exact Calls.quiet_of_same ((C.out _).mono fun e w' ⟨he, hw⟩ => ⟨he, hw.symm⟩)))
        go_wp2
        rw [D.out]
        go_ret
        exact ⟨rfl, H2.out.drewN.below⟩
end Go.Proofs.Ytboffheklkhnkaa
